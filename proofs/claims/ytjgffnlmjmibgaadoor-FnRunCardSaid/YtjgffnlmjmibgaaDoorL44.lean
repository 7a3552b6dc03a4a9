/-
  Joined: RpG, RyS, RpH, RunS.
-/
import Derived.Test.YtjgffnlmjmibgaaDoorL39
import Derived.Test.YtjgffnlmjmibgaaDoorL43

namespace Go.Proofs.YtjgffnlmjmibgaaDoor
set_option maxRecDepth 100000
set_option maxHeartbeats 16000000
open Go.RowKit
set_option linter.unusedVariables false
set_option linter.unusedSimpArgs false

theorem newReplay_ok {a:Option Addr} {len cap:Nat} {rows:List (List I3)} {w:World} {cs:Sl × Sl × Sl} (hC:Codes w a len cap rows) (hV:VmShape w) (hp:progOk rows=true) (hR:RowsAt w a cs rows) :
  Calls Tryd.prog 27 #[.agg #[.slice a len cap]] w fun e w'=>e=.returned (.tuple #[.agg (Rp.machR (.slice none 0 0) cs.1.val cs.2.1.val cs.2.2.val zeroV).toArray,.int .i64 0])∧Below w.heap.size w w':=by
 refine newReplay_of a len cap w 0 cs.1.1 cs.1.2.1 cs.1.2.2 cs.2.1.1 cs.2.1.2.1 cs.2.1.2.2 cs.2.2.1 cs.2.2.2.1 cs.2.2.2.2 0 0 0 0 0 0 0 0 0 0 0 0 0 0 0 fun W s bW hs=>?_
 refine (machineOf_ok a len cap rows s zeroV W (hC.below bW) hs (hV.below bW) hp zero_shape).mono ?_
 rintro e w' ⟨⟨cs',rfl,hR'⟩,hb⟩
 obtain rfl:=hR'.uniq (hR.below bW)
 exact ⟨rfl,hb⟩
theorem newReplay_bad {a:Option Addr} {len cap:Nat} {rows:List (List I3)} {w:World} (hC:Codes w a len cap rows) (hV:VmShape w) (hp:progOk rows=false) :
  Calls Tryd.prog 27 #[.agg #[.slice a len cap]] w fun e w'=>e=.returned (.tuple #[.agg #[.slice none 0 0,.int .i64 0,.int .i64 0,.int .i64 0,.slice none 0 0,.int .i64 0,.int .i64 0,.int .i64 0,.slice none 0 0,.int .i64 0,.int .i64 0,.int .i64 0,.int .i64 0,.int .i64 0,.int .i64 0,.int .i64 0,.int .i64 0,.int .i64 0,.slice none 0 0],.int .i64 1])∧Below w.heap.size w w':=by
 refine newReplay_of a len cap w 1 none 0 0 none 0 0 none 0 0 0 0 0 0 0 0 0 0 0 0 0 0 0 0 0 fun W s bW hs=>?_
 exact machineOf_bad a len cap rows s zeroV W (hC.below bW) hs (hV.below bW) (by rw [hp];rfl)

theorem bugs_sliceR {w:World} {B:Nat} {v:Value} {xs:List I3} (h:w.ownsRow B 40 3 v xs.length (flat xs)) (hf:∀ x ∈ xs,I3.fits x):∃ a cap,v=.slice a xs.length cap∧Instrs w a xs.length cap xs∧GoodS a cap:=by
 rcases h.2 with ⟨rfl,h0⟩ | ⟨g,cap,cur,hv,_⟩
 ·exact ⟨none,0,by rw [h0],⟨rfl,by omega,by unfold maxLen;omega,hf,.inl h0⟩,fun _=>rfl,fun x hx=>by cases hx⟩
 ·subst hv
  exact ⟨_,_,rfl,Instrs.of_owns h rfl hf rfl,(fun h=>by cases h),fun x hx=>by cases hx;rfl⟩

theorem rbugs_is {fv:Value} {w:World} {g B:Nat} {cs:Sl × Sl × Sl} {rows:List (List I3)} {m:V4} {fs:List I3} (h:Rp.MachAt fv w g cs rows m) (hp:progOk rows=true) (hs:shapeOk m=true) (hF:w.ownsRow B 40 3 fv fs.length (flat fs)) (hfit:∀ x ∈ fs,I3.fits x) (hn:fs.length≤400000) :
  Calls Tryd.prog 30 #[.pointer (some ⟨g,0,none⟩)] w fun e w'=>BugsOne e w' w.heap.size (mergeB fs (deadM rows m))∧Below w.heap.size w w':=by
 have kU:=fun (W:World) (b:Below w.heap.size w W)=>deadlock_of (Rp.stuck_is g cs rows m W (h.below b) hp hs)
 rw [show (if stuckM rows m then [((14:Int),(0:Int),(0:Int))] else [])=deadM rows m from rfl] at kU
 have r1:=h.1.cell 18
 rw [Rp.machR_found] at r1
 obtain ⟨fa,fc,rfl,hI,hG⟩:=bugs_sliceR hF hfit
 have hdl:(deadM rows m).length≤1:=by unfold deadM;split<;>simp
 have hdf:∀ x ∈ deadM rows m,I3.fits x:=by
  intro x hx
  unfold deadM at hx
  split at hx
  ·simp only [List.mem_singleton] at hx
   subst hx
   exact okB_fitsQ rfl
  ·cases hx
 generalize deadM rows m=dd at *
 obtain ⟨fin,hfin⟩:∃ fin,fin=mergeB fs dd:=⟨_,rfl⟩
 rw [← hfin]
 have HF:Hid (fin=mergeB fs dd):=hfin
 clear hF hfin
 go_enter Tryd.func30,Tryd.ntmps30
 go_wp2_with fail
 refine wp_region_held_drew (S:=(fun w'=>w'.cell? ⟨g,18,none⟩=some (.slice fa fs.length fc))) (by kernel_rfl) r1 (fun hS0=>?_)
 refine tkm 0 3 (.pointer (some ⟨g,0,none⟩)) ?_
 refine tkm 1 4 (.pointer (some ⟨g,0,none⟩)) ?_
 refine tkm 2 5 (.pointer (some ⟨g,18,none⟩)) ?_
 refine tkm 3 6 (.slice fa fs.length fc) ?_
 refine tkm 4 7 (.pointer (some ⟨g,0,none⟩)) ?_
 refine tkm 5 8 (.pointer (some ⟨g,0,none⟩)) ?_
 refine tkm 6 9 (.pointer (some ⟨g,0,none⟩)) ?_
 have bd:Below w.heap.size w w.drew:=by go_grown
 have kU2:=kU _ bd
 replace hI:=hI.below bd
 generalize w.drew=V0 at *
 clear kU
 refine tkr 7 10 (fun K hK=>?_)
 go_simp
 refine kU2.mono ?_
 rintro e w1 ⟨⟨v,rfl,q⟩,hb1⟩
 obtain ⟨da,dc,rfl,hID,hGD⟩:=bugs_sliceR q hdf
 go_wp2_with fail
 refine hK.out _ _ (cells_kept hb1 _ _ hS0) (fun hS1=>?_)
 clear hK kU2
 try simp only [Act.put,tka,tkb,tkc]
 have kM:=mergedBugs_is fa fs.length fc fs da dd.length dc dd w1 (hI.below hb1) hID hn (by omega) hG hGD
 rw [← HF.out] at kM
 refine tkr 8 11 (fun K hK=>?_)
 go_simp
 refine kM.mono ?_
 rintro e w2 ⟨⟨v,rfl,q⟩,hb2⟩
 go_wp2_with fail
 refine hK.out _ _ (cells_kept hb2 _ _ hS1) (fun hS2=>?_)
 clear hK
 try simp only [Act.put,tka,tkb,tkc]
 refine tkm 9 2 v ?_
 refine wpAnyH_done (by kernel_rfl) ?_ _
 have q2:=own_lowerB q (Nat.le_trans bd.size hb1.size)
 have bz:=bel_trans bd (bel_trans hb1 hb2)
 clear kM q hb1 hb2 r1 hS0 hS1 hS2
 go_wp2
 go_ret
 exact ⟨⟨v,rfl,q2⟩,bz⟩

namespace Rp
open Go.RowKit
set_option linter.unusedVariables false
set_option linter.unusedSimpArgs false
variable {fv : Value}

theorem state_raw (g:Nat) (da0:Option Addr) (dn0 dc0:Nat) (da1:Option Addr) (dn1 dc1:Nat) (da2:Option Addr) (dn2 dc2:Nat) (p0 p1 p2 v0 v1 v2 v3 h0 h1 x0 y0 x1 y1 x2 y2:Int) (w:World) (hM:Blk w g 71 [.slice da0 dn0 dc0,.int .i64 p0,.int .i64 x0,.int .i64 y0,.slice da1 dn1 dc1,.int .i64 p1,.int .i64 x1,.int .i64 y1,.slice da2 dn2 dc2,.int .i64 p2,.int .i64 x2,.int .i64 y2,.int .i64 v0,.int .i64 v1,.int .i64 v2,.int .i64 v3,.int .i64 h0,.int .i64 h1,fv]) :
  Calls Tryd.prog 29 #[.pointer (some ⟨g,0,none⟩)] w fun e w'=>VmOne e w' w.heap.size ([p0,p1,p2],[v0,v1,v2,v3],[h0,h1],[x0,y0,x1,y1,x2,y2])∧Below w.heap.size w w':=by
 have kN:=implNewVm_is
 have bw:Below w.heap.size w (w.alloc (.cells #[.slice none 0 0,.slice none 0 0,.slice none 0 0,.slice none 0 0] 30)):=by go_grown
 have pR:=Blk.new w 30 [.slice none 0 0,.slice none 0 0,.slice none 0 0,.slice none 0 0]
 go_enter Tryd.func29,Tryd.ntmps29
 go_wp2_with fail
 refine (kN _).mono ?_
 rintro e w1 ⟨⟨t,rfl,hO⟩,hb⟩
 obtain ⟨g0,g1,g2,g3,c0,c1,c2,c3,rfl,⟨l0,l1,l2,l3⟩,m0,m1,m2,m3⟩:=newVm_open hO
 unfold maxLen at m0 m1 m2 m3
 have uX:S4.val ((some ⟨g0,0,none⟩,3,c0),(some ⟨g1,0,none⟩,4,c1),(some ⟨g2,0,none⟩,2,c2),(some ⟨g3,0,none⟩,6,c3))=.agg #[.slice (some ⟨g0,0,none⟩) 3 c0,.slice (some ⟨g1,0,none⟩) 4 c1,.slice (some ⟨g2,0,none⟩) 2 c2,.slice (some ⟨g3,0,none⟩) 6 c3]:=rfl
 rw [uX]
 clear uX
 replace hO:=hO.lower9 bw.size
 have bA:Below w1.heap.size w1 (w1.alloc (.cells #[.slice (some ⟨g0,0,none⟩) 3 c0,.slice (some ⟨g1,0,none⟩) 4 c1,.slice (some ⟨g2,0,none⟩) 2 c2,.slice (some ⟨g3,0,none⟩) 6 c3] 30)):=by go_grown
 have pS:=Blk.new w1 30 [.slice (some ⟨g0,0,none⟩) 3 c0,.slice (some ⟨g1,0,none⟩) 4 c1,.slice (some ⟨g2,0,none⟩) 2 c2,.slice (some ⟨g3,0,none⟩) 6 c3]
 have hgS:w.heap.size<w1.heap.size:=Nat.lt_of_lt_of_le (by simp) hb.size
 replace bw:=bel_trans bw (bel_trans hb bA)
 replace pR:=pR.below (bel_trans hb bA)
 replace hO:=hO.below bA
 clear hb bA kN
 go_wp2_with fail
 generalize (w1.alloc (.cells #[.slice (some ⟨g0,0,none⟩) 3 c0,.slice (some ⟨g1,0,none⟩) 4 c1,.slice (some ⟨g2,0,none⟩) 2 c2,.slice (some ⟨g3,0,none⟩) 6 c3] 30))=W1 at *
 generalize w1.heap.size=gS at *
 unfold zeroV at hO
 have neS0:=hO.1.1.ne9 pS (by decide)
 have neR0:=hO.1.1.ne9 pR (by decide)
 have neS1:=hO.1.2.1.ne9 pS (by decide)
 have neR1:=hO.1.2.1.ne9 pR (by decide)
 have neS2:=hO.1.2.2.1.ne9 pS (by decide)
 have neR2:=hO.1.2.2.1.ne9 pR (by decide)
 have neS3:=hO.1.2.2.2.ne9 pS (by decide)
 have neR3:=hO.1.2.2.2.ne9 pR (by decide)
 have e1:W1.cell? ⟨gS,1,none⟩=some (.slice (some ⟨g1,0,none⟩) 4 c1):=by simpa using pS.cell 1
 refine wp_region_held_drew (S:=(fun w'=>w'.cell? ⟨gS,1,none⟩=some (.slice (some ⟨g1,0,none⟩) 4 c1))) (by kernel_rfl) e1 (fun hS0=>?_)
 refine tkm 0 7 (.pointer (some ⟨gS,1,none⟩)) ?_
 refine tkm 1 8 (.slice (some ⟨g1,0,none⟩) 4 c1) ?_
 refine tkm 2 9 (.pointer (some ⟨g,0,none⟩)) ?_
 refine tkm 3 10 (.pointer (some ⟨g,0,none⟩)) ?_
 refine tkm 4 11 (.pointer (some ⟨g,12,none⟩)) ?_
 refine tkm 5 12 (.slice (some ⟨g,12,none⟩) 4 4) ?_
 obtain ⟨cur,hcur,hcl,hct,hcB,hcn,hcm⟩:=(hO.1.2.1).open9
 refine tkr 6 13 (fun K hK=>?_)
 refine step_copy_grown rfl _ _ 27 27 rfl 3 Tryd.underlying27 (by kernel_rfl) g1 0 ⟨g,12,none⟩ _ _ _ _ rfl rfl cur 3 hcur.drew [.int .i64 v0,.int .i64 v1,.int .i64 v2,.int .i64 v3] (.int .i64 4) rfl rfl (blk_src (hM.below (bel_trans bw (by go_grown))) (fun j v hj=>by match j,hj with | 0,hj=>exact hj | 1,hj=>exact hj | 2,hj=>exact hj | 3,hj=>exact hj | (j+4),hj=>simp at hj)) (by simp;omega) (by simp [Value.oneCell']) ?_
 intro W2 hB9 gr
 replace hO:=OwnV.into1 hO.drew9 gr (OwnI.spliced9 (zs':=[v0,v1,v2,v3]) hcl hct hcB hcn hcm hB9.out (by simp) rfl rfl)
 simp only at hO
 replace pS:=(pS.drew).kept gr (fun e=>neS1 (by simpa using e.symm))
 replace pR:=(pR.drew).kept gr (fun e=>neR1 (by simpa using e.symm))
 
 replace bw:=(bel_trans bw (by go_grown:Below W1.heap.size W1 W1.drew)).grown gr (by have:=bw.size;exact this) (fun x hx=>by cases hx;exact hcB)
 refine hK.out _ _ ?_ (fun hS1=>?_)
 ·exact by simpa using pS.cell 1
 clear hK hS0 hS1 hB9 gr hcur hcl hct hcB hcn hcm
 try simp only [Act.put,tka,tkb,tkc]
 refine wpAnyH_done (by kernel_rfl) ?_ _
 clear e1
 go_wp2_with fail
 have e1:W2.cell? ⟨gS,2,none⟩=some (.slice (some ⟨g2,0,none⟩) 2 c2):=by simpa using pS.cell 2
 refine wp_region_held_drew (S:=(fun w'=>w'.cell? ⟨gS,2,none⟩=some (.slice (some ⟨g2,0,none⟩) 2 c2))) (by kernel_rfl) e1 (fun hS0=>?_)
 refine tkm 0 14 (.pointer (some ⟨gS,2,none⟩)) ?_
 refine tkm 1 15 (.slice (some ⟨g2,0,none⟩) 2 c2) ?_
 refine tkm 2 16 (.pointer (some ⟨g,0,none⟩)) ?_
 refine tkm 3 17 (.pointer (some ⟨g,0,none⟩)) ?_
 refine tkm 4 18 (.pointer (some ⟨g,16,none⟩)) ?_
 refine tkm 5 19 (.slice (some ⟨g,16,none⟩) 2 2) ?_
 obtain ⟨cur,hcur,hcl,hct,hcB,hcn,hcm⟩:=(hO.1.2.2.1).open9
 refine tkr 6 20 (fun K hK=>?_)
 refine step_copy_grown rfl _ _ 27 27 rfl 3 Tryd.underlying27 (by kernel_rfl) g2 0 ⟨g,16,none⟩ _ _ _ _ rfl rfl cur 3 hcur.drew [.int .i64 h0,.int .i64 h1] (.int .i64 2) rfl rfl (blk_src (hM.below (bel_trans bw (by go_grown))) (fun j v hj=>by match j,hj with | 0,hj=>exact hj | 1,hj=>exact hj | (j+2),hj=>simp at hj)) (by simp;omega) (by simp [Value.oneCell']) ?_
 intro W3 hB9 gr
 replace hO:=OwnV.into2 hO.drew9 gr (OwnI.spliced9 (zs':=[h0,h1]) hcl hct hcB hcn hcm hB9.out (by simp) rfl rfl)
 simp only at hO
 replace pS:=(pS.drew).kept gr (fun e=>neS2 (by simpa using e.symm))
 replace pR:=(pR.drew).kept gr (fun e=>neR2 (by simpa using e.symm))
 
 replace bw:=(bel_trans bw (by go_grown:Below W2.heap.size W2 W2.drew)).grown gr (by have:=bw.size;exact this) (fun x hx=>by cases hx;exact hcB)
 refine hK.out _ _ ?_ (fun hS1=>?_)
 ·exact by simpa using pS.cell 2
 clear hK hS0 hS1 hB9 gr hcur hcl hct hcB hcn hcm
 try simp only [Act.put,tka,tkb,tkc]
 refine wpAnyH_done (by kernel_rfl) ?_ _
 clear e1
 have t0:=(hM.below bw).cell 0
 have t1:=(hM.below bw).cell 1
 have t2:=(hM.below bw).cell 2
 have t3:=(hM.below bw).cell 3
 have t4:=(hM.below bw).cell 4
 have t5:=(hM.below bw).cell 5
 have t6:=(hM.below bw).cell 6
 have t7:=(hM.below bw).cell 7
 have t8:=(hM.below bw).cell 8
 have t9:=(hM.below bw).cell 9
 have t10:=(hM.below bw).cell 10
 have t11:=(hM.below bw).cell 11
 simp only [List.getElem?_cons_zero,List.getElem?_cons_succ] at t0 t1 t2 t3 t4 t5 t6 t7 t8 t9 t10 t11
 obtain ⟨PM,q0,q1,q2,q3⟩:∃ PM:Nat→V4,Hid (PM 0=([0,0,0],[v0,v1,v2,v3],[h0,h1],[0,0,0,0,0,0]))∧Hid (PM 1=([p0,0,0],[v0,v1,v2,v3],[h0,h1],[x0,y0,0,0,0,0]))∧Hid (PM 2=([p0,p1,0],[v0,v1,v2,v3],[h0,h1],[x0,y0,x1,y1,0,0]))∧Hid (PM 3=([p0,p1,p2],[v0,v1,v2,v3],[h0,h1],[x0,y0,x1,y1,x2,y2])):=
  ⟨fun k=>if k=0 then ([0,0,0],[v0,v1,v2,v3],[h0,h1],[0,0,0,0,0,0]) else if k=1 then ([p0,0,0],[v0,v1,v2,v3],[h0,h1],[x0,y0,0,0,0,0]) else if k=2 then ([p0,p1,0],[v0,v1,v2,v3],[h0,h1],[x0,y0,x1,y1,0,0]) else ([p0,p1,p2],[v0,v1,v2,v3],[h0,h1],[x0,y0,x1,y1,x2,y2]),rfl,rfl,rfl,rfl⟩
 have i0:=idxT_0 (.slice da0 dn0 dc0) (.int .i64 p0) (.int .i64 x0) (.int .i64 y0) (.slice da1 dn1 dc1) (.int .i64 p1) (.int .i64 x1) (.int .i64 y1) (.slice da2 dn2 dc2) (.int .i64 p2) (.int .i64 x2) (.int .i64 y2)
 have i1:=idxT_1 (.slice da0 dn0 dc0) (.int .i64 p0) (.int .i64 x0) (.int .i64 y0) (.slice da1 dn1 dc1) (.int .i64 p1) (.int .i64 x1) (.int .i64 y1) (.slice da2 dn2 dc2) (.int .i64 p2) (.int .i64 x2) (.int .i64 y2)
 have i2:=idxT_2 (.slice da0 dn0 dc0) (.int .i64 p0) (.int .i64 x0) (.int .i64 y0) (.slice da1 dn1 dc1) (.int .i64 p1) (.int .i64 x1) (.int .i64 y1) (.slice da2 dn2 dc2) (.int .i64 p2) (.int .i64 x2) (.int .i64 y2)
 have hO3:OwnV W3 w.heap.size ((some ⟨g0,0,none⟩,3,c0),(some ⟨g1,0,none⟩,4,c1),(some ⟨g2,0,none⟩,2,c2),(some ⟨g3,0,none⟩,6,c3)) (PM 0):=by rw [q0.out];exact hO
 clear hO
 have hO:=hO3
 clear hO3
 go_wp2_with fail
 clear t0 t1 t2 t3 t4 t5 t6 t7 t8 t9 t10 t11
 go_loopw [25] (fun si wr=>∃ k:Nat,k≤3∧si=.int .i64 k∧OwnV wr w.heap.size ((some ⟨g0,0,none⟩,3,c0),(some ⟨g1,0,none⟩,4,c1),(some ⟨g2,0,none⟩,2,c2),(some ⟨g3,0,none⟩,6,c3)) (PM k)∧Blk wr gS 30 [.slice (some ⟨g0,0,none⟩) 3 c0,.slice (some ⟨g1,0,none⟩) 4 c1,.slice (some ⟨g2,0,none⟩) 2 c2,.slice (some ⟨g3,0,none⟩) 6 c3]∧Blk wr w.heap.size 30 [.slice none 0 0,.slice none 0 0,.slice none 0 0,.slice none 0 0]∧Below w.heap.size w wr) (fun si _=>3 - (intOf si).toNat)
 case atStart=>exact ⟨0,by omega,rfl,hO,pS,pR,bw⟩
 case round =>
  clear hO pS pR bw neS0 neS1 neS2 neS3 neR0 neR1 neR2 neR3
  obtain ⟨k,hk,rfl,hO,pS,pR,bw⟩:=hrel
  rcases (show k=0∨k=1∨k=2∨k=3 by omega) with rfl | rfl | rfl | rfl
  ·skip
   rw [q0.out] at hO
   have neS0:=hO.1.1.ne9 pS (by decide)
   have neR0:=hO.1.1.ne9 pR (by decide)
   have neS1:=hO.1.2.1.ne9 pS (by decide)
   have neR1:=hO.1.2.1.ne9 pR (by decide)
   have neS2:=hO.1.2.2.1.ne9 pS (by decide)
   have neR2:=hO.1.2.2.1.ne9 pR (by decide)
   have neS3:=hO.1.2.2.2.ne9 pS (by decide)
   have neR3:=hO.1.2.2.2.ne9 pR (by decide)
   have hold:wr.cell? ⟨g0,0,none⟩=some (.int .i64 0):=hO.1.1.at9 (by decide)
   have hfz:=hO.1.1.frz9 0
   have hlo:=hO.1.1.lo9
   have bA:Below wr.heap.size wr (wr.alloc (.cells #[.slice da0 dn0 dc0,.int .i64 p0,.int .i64 x0,.int .i64 y0] 65)):=by go_grown
   have pT:=Blk.new wr 65 [.slice da0 dn0 dc0,.int .i64 p0,.int .i64 x0,.int .i64 y0]
   have hold2:(wr.alloc (.cells #[.slice da0 dn0 dc0,.int .i64 p0,.int .i64 x0,.int .i64 y0] 65)).cell? ⟨g0,0,none⟩=some (.int .i64 0):=cells_kept bA _ _ hold
   have hfz2:(wr.alloc (.cells #[.slice da0 dn0 dc0,.int .i64 p0,.int .i64 x0,.int .i64 y0] 65)).frozen? ⟨g0,0,none⟩=false:=(hO.below bA).1.1.frz9 0
   have pS1:=pS.below bA
   have s0:(wr.alloc (.cells #[.slice da0 dn0 dc0,.int .i64 p0,.int .i64 x0,.int .i64 y0] 65)).cell? ⟨gS,0,none⟩=some (.slice (some ⟨g0,0,none⟩) 3 c0):=by simpa using pS1.cell 0
   have bS:Below (wr.setCell ⟨g0,0,none⟩ (.int .i64 p0)).heap.size (wr.setCell ⟨g0,0,none⟩ (.int .i64 p0)) ((wr.setCell ⟨g0,0,none⟩ (.int .i64 p0)).alloc (.cells #[.slice da0 dn0 dc0,.int .i64 p0,.int .i64 x0,.int .i64 y0] 65)):=by go_grown
   have hO2:=(hO.set0 0 p0).below bS
   simp only [List.set_cons_zero,List.set_cons_succ] at hO2
   have pT2:Blk ((wr.setCell ⟨g0,0,none⟩ (.int .i64 p0)).alloc (.cells #[.slice da0 dn0 dc0,.int .i64 p0,.int .i64 x0,.int .i64 y0] 65)) wr.heap.size 65 [.slice da0 dn0 dc0,.int .i64 p0,.int .i64 x0,.int .i64 y0]:=by
    have h9:=Blk.new (wr.setCell ⟨g0,0,none⟩ (.int .i64 p0)) 65 [.slice da0 dn0 dc0,.int .i64 p0,.int .i64 x0,.int .i64 y0]
    rwa [World.size_setCell] at h9
   have pS2:=(pS.off ⟨g0,0,none⟩ (.int .i64 p0) neS0).below bS
   have pR2:=(pR.off ⟨g0,0,none⟩ (.int .i64 p0) neR0).below bS
   have b2:=bel_trans (bw.setCell (p:=⟨g0,0,none⟩) hlo.1 (.int .i64 p0)) bS
   clear pS1
   go_wp2_with fail
   clear hold hfz hold2 hfz2 s0 bA hO pS pR bw bS pT
   generalize hWW:((wr.setCell ⟨g0,0,none⟩ (.int .i64 p0)).alloc (.cells #[.slice da0 dn0 dc0,.int .i64 p0,.int .i64 x0,.int .i64 y0] 65))=Wa at *
   have hgT:wr.heap.size<Wa.heap.size:=pT2.lt
   clear hWW
   generalize wr.heap.size=gT at *
   have hO:=hO2
   have pS:=pS2
   have pR:=pR2
   have bw:=b2
   have pT:=pT2
   clear hO2 pS2 pR2 b2 pT2
   have neT3:=hO.1.2.2.2.ne9 pT (by decide)
   have e1:Wa.cell? ⟨gS,3,none⟩=some (.slice (some ⟨g3,0,none⟩) 6 c3):=by simpa using pS.cell 3
   have hz:¬ c3=0:=by omega
   have hzi:(0:Int)≤(6:Int):=by decide
   refine wp_region_held_drew (S:=(fun w'=>w'.cell? ⟨gS,3,none⟩=some (.slice (some ⟨g3,0,none⟩) 6 c3))) (by kernel_rfl) e1 (fun hS0=>?_)
   refine tkm 0 35 (.pointer (some ⟨gS,3,none⟩)) ?_
   refine tkm 1 36 (.slice (some ⟨g3,0,none⟩) 6 c3) ?_
   refine tkm 2 37 (.int .i64 0) ?_
   refine tkm 3 38 (.int .i64 0) ?_
   refine tkm 4 39 (.slice (some ⟨g3,0,none⟩) 6 c3) ?_
   refine tkm 5 40 (.pointer (some ⟨gT,2,none⟩)) ?_
   refine tkm 6 41 (.slice (some ⟨gT,2,none⟩) 2 2) ?_
   obtain ⟨cur,hcur,hcl,hct,hcB,hcn,hcm⟩:=(hO.1.2.2.2).open9
   refine tkr 7 42 (fun K hK=>?_)
   refine step_copy_grown rfl _ _ 27 27 rfl 3 Tryd.underlying27 (by kernel_rfl) g3 0 ⟨gT,2,none⟩ _ _ _ _ rfl rfl cur 3 hcur.drew [.int .i64 x0,.int .i64 y0] (.int .i64 2) rfl rfl (blk_src pT.drew (fun j v hj=>by match j,hj with | 0,hj=>exact hj | 1,hj=>exact hj | (j+2),hj=>simp at hj)) (by simp;omega) (by simp [Value.oneCell']) ?_
   intro Wb hB9 gr
   replace hO:=OwnV.into3 hO.drew9 gr (OwnI.spliced9 (zs':=[x0,y0,0,0,0,0]) hcl hct hcB hcn hcm hB9.out (by simp) rfl rfl)
   simp only at hO
   replace pS:=(pS.drew).kept gr (fun e=>neS3 (by simpa using e.symm))
   replace pR:=(pR.drew).kept gr (fun e=>neR3 (by simpa using e.symm))
   
   replace bw:=(bel_trans bw (by go_grown:Below Wa.heap.size Wa Wa.drew)).grown gr (by have:=bw.size;exact this) (fun x hx=>by cases hx;exact hcB)
   refine hK.out _ _ ?_ (fun hS1=>?_)
   ·exact by simpa using pS.cell 3
   clear hK hS0 hS1 hB9 gr hcur hcl hct hcB hcn hcm
   try simp only [Act.put,tka,tkb,tkc]
   refine wpAnyH_done (by kernel_rfl) ?_ _
   rw [show ([p0,0,0],[v0,v1,v2,v3],[h0,h1],[x0,y0,0,0,0,0])=PM 1 from q1.out.symm] at hO
   clear e1 hz hzi pT
   go_wp2
   go_roundw
   case rel=>exact ⟨1,by omega,rfl,hO,pS,pR,bw⟩
   case measure=>simp [intOf]
  ·skip
   rw [q1.out] at hO
   have neS0:=hO.1.1.ne9 pS (by decide)
   have neR0:=hO.1.1.ne9 pR (by decide)
   have neS1:=hO.1.2.1.ne9 pS (by decide)
   have neR1:=hO.1.2.1.ne9 pR (by decide)
   have neS2:=hO.1.2.2.1.ne9 pS (by decide)
   have neR2:=hO.1.2.2.1.ne9 pR (by decide)
   have neS3:=hO.1.2.2.2.ne9 pS (by decide)
   have neR3:=hO.1.2.2.2.ne9 pR (by decide)
   have hold:wr.cell? ⟨g0,1,none⟩=some (.int .i64 0):=hO.1.1.at9 (by decide)
   have hfz:=hO.1.1.frz9 1
   have hlo:=hO.1.1.lo9
   have bA:Below wr.heap.size wr (wr.alloc (.cells #[.slice da1 dn1 dc1,.int .i64 p1,.int .i64 x1,.int .i64 y1] 65)):=by go_grown
   have pT:=Blk.new wr 65 [.slice da1 dn1 dc1,.int .i64 p1,.int .i64 x1,.int .i64 y1]
   have hold2:(wr.alloc (.cells #[.slice da1 dn1 dc1,.int .i64 p1,.int .i64 x1,.int .i64 y1] 65)).cell? ⟨g0,1,none⟩=some (.int .i64 0):=cells_kept bA _ _ hold
   have hfz2:(wr.alloc (.cells #[.slice da1 dn1 dc1,.int .i64 p1,.int .i64 x1,.int .i64 y1] 65)).frozen? ⟨g0,1,none⟩=false:=(hO.below bA).1.1.frz9 1
   have pS1:=pS.below bA
   have s0:(wr.alloc (.cells #[.slice da1 dn1 dc1,.int .i64 p1,.int .i64 x1,.int .i64 y1] 65)).cell? ⟨gS,0,none⟩=some (.slice (some ⟨g0,0,none⟩) 3 c0):=by simpa using pS1.cell 0
   have bS:Below (wr.setCell ⟨g0,1,none⟩ (.int .i64 p1)).heap.size (wr.setCell ⟨g0,1,none⟩ (.int .i64 p1)) ((wr.setCell ⟨g0,1,none⟩ (.int .i64 p1)).alloc (.cells #[.slice da1 dn1 dc1,.int .i64 p1,.int .i64 x1,.int .i64 y1] 65)):=by go_grown
   have hO2:=(hO.set0 1 p1).below bS
   simp only [List.set_cons_zero,List.set_cons_succ] at hO2
   have pT2:Blk ((wr.setCell ⟨g0,1,none⟩ (.int .i64 p1)).alloc (.cells #[.slice da1 dn1 dc1,.int .i64 p1,.int .i64 x1,.int .i64 y1] 65)) wr.heap.size 65 [.slice da1 dn1 dc1,.int .i64 p1,.int .i64 x1,.int .i64 y1]:=by
    have h9:=Blk.new (wr.setCell ⟨g0,1,none⟩ (.int .i64 p1)) 65 [.slice da1 dn1 dc1,.int .i64 p1,.int .i64 x1,.int .i64 y1]
    rwa [World.size_setCell] at h9
   have pS2:=(pS.off ⟨g0,1,none⟩ (.int .i64 p1) neS0).below bS
   have pR2:=(pR.off ⟨g0,1,none⟩ (.int .i64 p1) neR0).below bS
   have b2:=bel_trans (bw.setCell (p:=⟨g0,1,none⟩) hlo.1 (.int .i64 p1)) bS
   clear pS1
   go_wp2_with fail
   clear hold hfz hold2 hfz2 s0 bA hO pS pR bw bS pT
   generalize hWW:((wr.setCell ⟨g0,1,none⟩ (.int .i64 p1)).alloc (.cells #[.slice da1 dn1 dc1,.int .i64 p1,.int .i64 x1,.int .i64 y1] 65))=Wa at *
   have hgT:wr.heap.size<Wa.heap.size:=pT2.lt
   clear hWW
   generalize wr.heap.size=gT at *
   have hO:=hO2
   have pS:=pS2
   have pR:=pR2
   have bw:=b2
   have pT:=pT2
   clear hO2 pS2 pR2 b2 pT2
   have neT3:=hO.1.2.2.2.ne9 pT (by decide)
   have e1:Wa.cell? ⟨gS,3,none⟩=some (.slice (some ⟨g3,0,none⟩) 6 c3):=by simpa using pS.cell 3
   have hz:¬ c3=2:=by omega
   have hzi:(2:Int)≤(6:Int):=by decide
   refine wp_region_held_drew (S:=(fun w'=>w'.cell? ⟨gS,3,none⟩=some (.slice (some ⟨g3,0,none⟩) 6 c3))) (by kernel_rfl) e1 (fun hS0=>?_)
   refine tkm 0 35 (.pointer (some ⟨gS,3,none⟩)) ?_
   refine tkm 1 36 (.slice (some ⟨g3,0,none⟩) 6 c3) ?_
   refine tkm 2 37 (.int .i64 1) ?_
   refine tkm 3 38 (.int .i64 2) ?_
   refine tkm 4 39 (.slice (some ⟨g3,2,none⟩) 4 (c3 - 2)) ?_
   refine tkm 5 40 (.pointer (some ⟨gT,2,none⟩)) ?_
   refine tkm 6 41 (.slice (some ⟨gT,2,none⟩) 2 2) ?_
   obtain ⟨cur,hcur,hcl,hct,hcB,hcn,hcm⟩:=(hO.1.2.2.2).open9
   refine tkr 7 42 (fun K hK=>?_)
   refine step_copy_grown rfl _ _ 27 27 rfl 3 Tryd.underlying27 (by kernel_rfl) g3 2 ⟨gT,2,none⟩ _ _ _ _ rfl rfl cur 3 hcur.drew [.int .i64 x1,.int .i64 y1] (.int .i64 2) rfl rfl (blk_src pT.drew (fun j v hj=>by match j,hj with | 0,hj=>exact hj | 1,hj=>exact hj | (j+2),hj=>simp at hj)) (by simp;omega) (by simp [Value.oneCell']) ?_
   intro Wb hB9 gr
   replace hO:=OwnV.into3 hO.drew9 gr (OwnI.spliced9 (zs':=[x0,y0,x1,y1,0,0]) hcl hct hcB hcn hcm hB9.out (by simp) rfl rfl)
   simp only at hO
   replace pS:=(pS.drew).kept gr (fun e=>neS3 (by simpa using e.symm))
   replace pR:=(pR.drew).kept gr (fun e=>neR3 (by simpa using e.symm))
   
   replace bw:=(bel_trans bw (by go_grown:Below Wa.heap.size Wa Wa.drew)).grown gr (by have:=bw.size;exact this) (fun x hx=>by cases hx;exact hcB)
   refine hK.out _ _ ?_ (fun hS1=>?_)
   ·exact by simpa using pS.cell 3
   clear hK hS0 hS1 hB9 gr hcur hcl hct hcB hcn hcm
   try simp only [Act.put,tka,tkb,tkc]
   refine wpAnyH_done (by kernel_rfl) ?_ _
   rw [show ([p0,p1,0],[v0,v1,v2,v3],[h0,h1],[x0,y0,x1,y1,0,0])=PM 2 from q2.out.symm] at hO
   clear e1 hz hzi pT
   go_wp2
   go_roundw
   case rel=>exact ⟨2,by omega,rfl,hO,pS,pR,bw⟩
   case measure=>simp [intOf]
  ·skip
   rw [q2.out] at hO
   have neS0:=hO.1.1.ne9 pS (by decide)
   have neR0:=hO.1.1.ne9 pR (by decide)
   have neS1:=hO.1.2.1.ne9 pS (by decide)
   have neR1:=hO.1.2.1.ne9 pR (by decide)
   have neS2:=hO.1.2.2.1.ne9 pS (by decide)
   have neR2:=hO.1.2.2.1.ne9 pR (by decide)
   have neS3:=hO.1.2.2.2.ne9 pS (by decide)
   have neR3:=hO.1.2.2.2.ne9 pR (by decide)
   have hold:wr.cell? ⟨g0,2,none⟩=some (.int .i64 0):=hO.1.1.at9 (by decide)
   have hfz:=hO.1.1.frz9 2
   have hlo:=hO.1.1.lo9
   have bA:Below wr.heap.size wr (wr.alloc (.cells #[.slice da2 dn2 dc2,.int .i64 p2,.int .i64 x2,.int .i64 y2] 65)):=by go_grown
   have pT:=Blk.new wr 65 [.slice da2 dn2 dc2,.int .i64 p2,.int .i64 x2,.int .i64 y2]
   have hold2:(wr.alloc (.cells #[.slice da2 dn2 dc2,.int .i64 p2,.int .i64 x2,.int .i64 y2] 65)).cell? ⟨g0,2,none⟩=some (.int .i64 0):=cells_kept bA _ _ hold
   have hfz2:(wr.alloc (.cells #[.slice da2 dn2 dc2,.int .i64 p2,.int .i64 x2,.int .i64 y2] 65)).frozen? ⟨g0,2,none⟩=false:=(hO.below bA).1.1.frz9 2
   have pS1:=pS.below bA
   have s0:(wr.alloc (.cells #[.slice da2 dn2 dc2,.int .i64 p2,.int .i64 x2,.int .i64 y2] 65)).cell? ⟨gS,0,none⟩=some (.slice (some ⟨g0,0,none⟩) 3 c0):=by simpa using pS1.cell 0
   have bS:Below (wr.setCell ⟨g0,2,none⟩ (.int .i64 p2)).heap.size (wr.setCell ⟨g0,2,none⟩ (.int .i64 p2)) ((wr.setCell ⟨g0,2,none⟩ (.int .i64 p2)).alloc (.cells #[.slice da2 dn2 dc2,.int .i64 p2,.int .i64 x2,.int .i64 y2] 65)):=by go_grown
   have hO2:=(hO.set0 2 p2).below bS
   simp only [List.set_cons_zero,List.set_cons_succ] at hO2
   have pT2:Blk ((wr.setCell ⟨g0,2,none⟩ (.int .i64 p2)).alloc (.cells #[.slice da2 dn2 dc2,.int .i64 p2,.int .i64 x2,.int .i64 y2] 65)) wr.heap.size 65 [.slice da2 dn2 dc2,.int .i64 p2,.int .i64 x2,.int .i64 y2]:=by
    have h9:=Blk.new (wr.setCell ⟨g0,2,none⟩ (.int .i64 p2)) 65 [.slice da2 dn2 dc2,.int .i64 p2,.int .i64 x2,.int .i64 y2]
    rwa [World.size_setCell] at h9
   have pS2:=(pS.off ⟨g0,2,none⟩ (.int .i64 p2) neS0).below bS
   have pR2:=(pR.off ⟨g0,2,none⟩ (.int .i64 p2) neR0).below bS
   have b2:=bel_trans (bw.setCell (p:=⟨g0,2,none⟩) hlo.1 (.int .i64 p2)) bS
   clear pS1
   go_wp2_with fail
   clear hold hfz hold2 hfz2 s0 bA hO pS pR bw bS pT
   generalize hWW:((wr.setCell ⟨g0,2,none⟩ (.int .i64 p2)).alloc (.cells #[.slice da2 dn2 dc2,.int .i64 p2,.int .i64 x2,.int .i64 y2] 65))=Wa at *
   have hgT:wr.heap.size<Wa.heap.size:=pT2.lt
   clear hWW
   generalize wr.heap.size=gT at *
   have hO:=hO2
   have pS:=pS2
   have pR:=pR2
   have bw:=b2
   have pT:=pT2
   clear hO2 pS2 pR2 b2 pT2
   have neT3:=hO.1.2.2.2.ne9 pT (by decide)
   have e1:Wa.cell? ⟨gS,3,none⟩=some (.slice (some ⟨g3,0,none⟩) 6 c3):=by simpa using pS.cell 3
   have hz:¬ c3=4:=by omega
   have hzi:(4:Int)≤(6:Int):=by decide
   refine wp_region_held_drew (S:=(fun w'=>w'.cell? ⟨gS,3,none⟩=some (.slice (some ⟨g3,0,none⟩) 6 c3))) (by kernel_rfl) e1 (fun hS0=>?_)
   refine tkm 0 35 (.pointer (some ⟨gS,3,none⟩)) ?_
   refine tkm 1 36 (.slice (some ⟨g3,0,none⟩) 6 c3) ?_
   refine tkm 2 37 (.int .i64 2) ?_
   refine tkm 3 38 (.int .i64 4) ?_
   refine tkm 4 39 (.slice (some ⟨g3,4,none⟩) 2 (c3 - 4)) ?_
   refine tkm 5 40 (.pointer (some ⟨gT,2,none⟩)) ?_
   refine tkm 6 41 (.slice (some ⟨gT,2,none⟩) 2 2) ?_
   obtain ⟨cur,hcur,hcl,hct,hcB,hcn,hcm⟩:=(hO.1.2.2.2).open9
   refine tkr 7 42 (fun K hK=>?_)
   refine step_copy_grown rfl _ _ 27 27 rfl 3 Tryd.underlying27 (by kernel_rfl) g3 4 ⟨gT,2,none⟩ _ _ _ _ rfl rfl cur 3 hcur.drew [.int .i64 x2,.int .i64 y2] (.int .i64 2) rfl rfl (blk_src pT.drew (fun j v hj=>by match j,hj with | 0,hj=>exact hj | 1,hj=>exact hj | (j+2),hj=>simp at hj)) (by simp;omega) (by simp [Value.oneCell']) ?_
   intro Wb hB9 gr
   replace hO:=OwnV.into3 hO.drew9 gr (OwnI.spliced9 (zs':=[x0,y0,x1,y1,x2,y2]) hcl hct hcB hcn hcm hB9.out (by simp) rfl rfl)
   simp only at hO
   replace pS:=(pS.drew).kept gr (fun e=>neS3 (by simpa using e.symm))
   replace pR:=(pR.drew).kept gr (fun e=>neR3 (by simpa using e.symm))
   
   replace bw:=(bel_trans bw (by go_grown:Below Wa.heap.size Wa Wa.drew)).grown gr (by have:=bw.size;exact this) (fun x hx=>by cases hx;exact hcB)
   refine hK.out _ _ ?_ (fun hS1=>?_)
   ·exact by simpa using pS.cell 3
   clear hK hS0 hS1 hB9 gr hcur hcl hct hcB hcn hcm
   try simp only [Act.put,tka,tkb,tkc]
   refine wpAnyH_done (by kernel_rfl) ?_ _
   rw [show ([p0,p1,p2],[v0,v1,v2,v3],[h0,h1],[x0,y0,x1,y1,x2,y2])=PM 3 from q3.out.symm] at hO
   clear e1 hz hzi pT
   go_wp2
   go_roundw
   case rel=>exact ⟨3,by omega,rfl,hO,pS,pR,bw⟩
   case measure=>simp [intOf]
  ·go_wp2_with (first | refine wpList_load_blk rfl 30 _ rfl gS rfl pS _ Tryd.underlying30 rfl (by kernel_rfl) ?_ | refine wpList_store_blk rfl 30 _ _ rfl w.heap.size [.slice (some ⟨g0,0,none⟩) 3 c0,.slice (some ⟨g1,0,none⟩) 4 c1,.slice (some ⟨g2,0,none⟩) 2 c2,.slice (some ⟨g3,0,none⟩) 6 c3] rfl rfl pR (by kernel_rfl) rfl rfl ?_)
   intro w9 pR9 g9
   replace bw:=bw.grown g9 bw.size (fun k hk=>by cases hk;omega)
   replace hO:=hO.kept9 g9 pR (by decide)
   clear g9 pR pS
   go_wp2_with fail
   refine bodyPost_ret (results_blk1 Tryd.results29 _ _ _ _ _ _ rfl pR9.out Tryd.underlying30 rfl (by kernel_rfl)) rfl ?_
   rw [q3.out] at hO
   exact ⟨VmOne.mk9 ((some ⟨g0,0,none⟩,3,c0),(some ⟨g1,0,none⟩,4,c1),(some ⟨g2,0,none⟩,2,c2),(some ⟨g3,0,none⟩,6,c3)) rfl hO,bw⟩
theorem state_is {w:World} {g:Nat} {cs:Sl × Sl × Sl} {m:V4} (hM:Blk w g 71 (machR fv cs.1.val cs.2.1.val cs.2.2.val m)) (hs:shapeOk m=true) :
  Calls Tryd.prog 29 #[.pointer (some ⟨g,0,none⟩)] w fun e w'=>VmOne e w' w.heap.size m∧Below w.heap.size w w':=by
 obtain ⟨p0,p1,p2,v0,v1,v2,v3,h0,h1,x0,y0,x1,y1,x2,y2,rfl⟩:=shape_lists hs
 exact state_raw g cs.1.1 cs.1.2.1 cs.1.2.2 cs.2.1.1 cs.2.1.2.1 cs.2.1.2.2 cs.2.2.1 cs.2.2.2.1 cs.2.2.2.2 p0 p1 p2 v0 v1 v2 v3 h0 h1 x0 y0 x1 y1 x2 y2 w hM

end Rp


def RunGot (e:Ending) (w:World) (B:Nat) (z:V4) (fs:List I3) (c:Int):Prop:=∃ (t:S4) (v:Value),e=.returned (.tuple #[t.val,v,.int .i64 c])∧OwnV w B t z∧w.ownsRow B 40 3 v fs.length (flat fs)
theorem RunGot.mk9 {e:Ending} {w:World} {B:Nat} {z:V4} {fs:List I3} {c:Int} (t:S4) (v:Value) (he:e=.returned (.tuple #[t.val,v,.int .i64 c])) (h1:OwnV w B t z) (h2:w.ownsRow B 40 3 v fs.length (flat fs)):RunGot e w B z fs c:=⟨t,v,he,h1,h2⟩
def runZ (rows:List (List I3)) (ks:List Int):V4:=if 4096<ks.length then ([],[],[],[]) else if progOk rows then (runI rows zeroV [] ks).1 else ([],[],[],[])
def runF (rows:List (List I3)) (ks:List Int):List I3:=if 4096<ks.length then [] else if progOk rows then mergeB (runI rows zeroV [] ks).2.1 (deadM rows (runI rows zeroV [] ks).1) else []
def runC (rows:List (List I3)) (ks:List Int):Int:=if 4096<ks.length then 2 else if progOk rows then (runI rows zeroV [] ks).2.2 else 1
theorem apart_nilV (s:Sl):Apart (none,0,0) s:=fun g h=>by simp [Value.ownBlock] at h
theorem own_nilV (w:World) (B:Nat):OwnV w B ((none,0,0),(none,0,0),(none,0,0),(none,0,0)) ([],[],[],[]):=
 ⟨⟨World.ownsRow_nil _ _ _ _,World.ownsRow_nil _ _ _ _,World.ownsRow_nil _ _ _ _,World.ownsRow_nil _ _ _ _⟩,apart_nilV _,apart_nilV _,apart_nilV _,apart_nilV _,apart_nilV _,apart_nilV _⟩

theorem implRunSchedule_long (a:Option Addr) (len cap:Nat) (la:Option Addr) (n c:Nat) (w:World) (hn:4096<n) :
  Calls Tryd.prog 8 #[.agg #[.slice a len cap],.slice la n c] w fun e w'=>RunGot e w' w.heap.size ([],[],[],[]) [] 2∧Below w.heap.size w w':=by
 have hn':(4096:Int)<(n:Int):=by omega
 have bw:Below w.heap.size w ((w.alloc (.cells #[.slice a len cap] 25)).alloc (.cells #[.slice none 0 0,.slice none 0 0,.slice none 0 0,.slice none 0 0] 30)):=by go_grown
 have pR:Blk ((w.alloc (.cells #[.slice a len cap] 25)).alloc (.cells #[.slice none 0 0,.slice none 0 0,.slice none 0 0,.slice none 0 0] 30)) (w.heap.size+1) 30 [.slice none 0 0,.slice none 0 0,.slice none 0 0,.slice none 0 0]:=blkAt _ _ _ (by simp)
 go_enter Tryd.func8,Tryd.ntmps8
 go_wp2_with fail
 go_returns
 exact ⟨RunGot.mk9 ((none,0,0),(none,0,0),(none,0,0),(none,0,0)) _ rfl (own_nilV _ _) (World.ownsRow_nil _ _ _ _),bw⟩

theorem implRunSchedule_bad (a:Option Addr) (len cap:Nat) (rows:List (List I3)) (la:Option Addr) (n c:Nat) (w:World) (hC:Codes w a len cap rows) (hV:VmShape w) (hp:progOk rows=false) (hn:¬ 4096<n) :
  Calls Tryd.prog 8 #[.agg #[.slice a len cap],.slice la n c] w fun e w'=>RunGot e w' w.heap.size ([],[],[],[]) [] 1∧Below w.heap.size w w':=by
 have hn':¬ (4096:Int)<(n:Int):=by omega
 have kN:=fun W (b:Below w.heap.size w W)=>newReplay_bad (hC.below b) (hV.below b) hp
 have bw:Below w.heap.size w ((w.alloc (.cells #[.slice a len cap] 25)).alloc (.cells #[.slice none 0 0,.slice none 0 0,.slice none 0 0,.slice none 0 0] 30)):=by go_grown
 have pP:Blk ((w.alloc (.cells #[.slice a len cap] 25)).alloc (.cells #[.slice none 0 0,.slice none 0 0,.slice none 0 0,.slice none 0 0] 30)) w.heap.size 25 [.slice a len cap]:=blkOld _ (blkAt _ _ _ rfl)
 have pR:Blk ((w.alloc (.cells #[.slice a len cap] 25)).alloc (.cells #[.slice none 0 0,.slice none 0 0,.slice none 0 0,.slice none 0 0] 30)) (w.heap.size+1) 30 [.slice none 0 0,.slice none 0 0,.slice none 0 0,.slice none 0 0]:=blkAt _ _ _ (by simp)
 clear hp hC hV hn
 go_enter Tryd.func8,Tryd.ntmps8
 go_wp2_with fail
 generalize ((w.alloc (.cells #[.slice a len cap] 25)).alloc (.cells #[.slice none 0 0,.slice none 0 0,.slice none 0 0,.slice none 0 0] 30))=U at *
 go_wp2_with (first | refine wpList_load_blk rfl 25 _ rfl w.heap.size rfl pP _ Tryd.underlying25 rfl (by kernel_rfl) ?_)
 refine (kN _ bw).mono ?_
 rintro e w1 ⟨rfl,hb⟩
 replace bw:=bel_trans bw hb
 replace pR:=pR.below hb
 have pN:=Blk.new w1 71 [.slice none 0 0,.int .i64 0,.int .i64 0,.int .i64 0,.slice none 0 0,.int .i64 0,.int .i64 0,.int .i64 0,.slice none 0 0,.int .i64 0,.int .i64 0,.int .i64 0,.int .i64 0,.int .i64 0,.int .i64 0,.int .i64 0,.int .i64 0,.int .i64 0,.slice none 0 0]
 have ha:Below w1.heap.size w1 (w1.alloc (.cells #[.slice none 0 0,.int .i64 0,.int .i64 0,.int .i64 0,.slice none 0 0,.int .i64 0,.int .i64 0,.int .i64 0,.slice none 0 0,.int .i64 0,.int .i64 0,.int .i64 0,.int .i64 0,.int .i64 0,.int .i64 0,.int .i64 0,.int .i64 0,.int .i64 0,.slice none 0 0] 71)):=by go_grown
 have hg1:w.heap.size+1<w1.heap.size:=pR.lt
 clear kN hb pP
 go_wp2_with (refine wpList_store_blk rfl 71 _ _ rfl w1.heap.size [.slice none 0 0,.int .i64 0,.int .i64 0,.int .i64 0,.slice none 0 0,.int .i64 0,.int .i64 0,.int .i64 0,.slice none 0 0,.int .i64 0,.int .i64 0,.int .i64 0,.int .i64 0,.int .i64 0,.int .i64 0,.int .i64 0,.int .i64 0,.int .i64 0,.slice none 0 0] rfl rfl pN (by kernel_rfl) rfl rfl ?_)
 intro w2 pM g1
 replace pR:=(pR.below ha).kept g1 (by simp;omega)
 replace bw:=(bel_trans bw ha).grown g1 (by simp;omega) (fun x hx=>by cases hx;omega)
 clear g1 ha pN pM
 generalize w1.heap.size=gM at *
 go_wp2_with (first | refine wpList_store_blk rfl 30 _ _ rfl (w.heap.size+1) [.slice none 0 0,.slice none 0 0,.slice none 0 0,.slice none 0 0] rfl rfl pR (by kernel_rfl) rfl rfl ?_)
 intro U2 pR2 g2
 have bz:=bw.grown g2 bw.size (fun k e=>by cases e;omega)
 clear bw g2 pR
 go_wp2_with fail
 refine bodyPost_ret (results_blk3 Tryd.results8 _ _ _ _ _ _ rfl pR2.out Tryd.underlying30 rfl (by kernel_rfl)) rfl ?_
 exact ⟨RunGot.mk9 ((none,0,0),(none,0,0),(none,0,0),(none,0,0)) _ rfl (own_nilV _ _) (World.ownsRow_nil _ _ _ _),bz⟩

theorem implRunSchedule_ok (a:Option Addr) (len cap:Nat) (rows:List (List I3)) (la:Option Addr) (n c:Nat) (ks:List Int) (w:World) (hC:Codes w a len cap rows) (hV:VmShape w) (hp:progOk rows=true) (hL:Ints .i64 w la n c ks) (hn:¬ 4096<n) :
  Calls Tryd.prog 8 #[.agg #[.slice a len cap],.slice la n c] w fun e w'=>RunGot e w' w.heap.size (runI rows zeroV [] ks).1 (mergeB (runI rows zeroV [] ks).2.1 (deadM rows (runI rows zeroV [] ks).1)) (runI rows zeroV [] ks).2.2∧Below w.heap.size w w':=by
 have hn':¬ (4096:Int)<(n:Int):=by omega
 obtain ⟨rfl,cs,hR⟩:=hC.rowsAt hp
 have kN:=fun W (b:Below w.heap.size w W)=>newReplay_ok (hC.below b) (hV.below b) hp (hR.below b)
 have okF:=runI_ok hp ks zeroV [] zero_shape (by simp)
 have lenF:=runI_len (rows:=rows) ks zeroV []
 have hll:=hL.1
 have kRun:=fun (W:World) (g:Nat) (b:Below w.heap.size w W) (hg:w.heap.size≤g) (hM:RanTo W g w.heap.size cs zeroV []) (hl:ListAt W w.heap.size la n c ks)=>run_is hR b hg hp zero_shape hM hl (by simp;omega)
 have hL0:∀ W,Below w.heap.size w W→ListAt W w.heap.size la n c ks:=fun W b=>⟨hL.below b,fun b' o' ha h0=>by
  rcases hL.2.2.2 with h9 | ⟨b9,o9,e9,l9,_⟩
  ·omega
  ·rw [ha] at e9
   cases e9
   exact .inl l9⟩
 generalize runI rows zeroV [] ks=fin at *
 obtain ⟨m,fs,code⟩:=fin
 simp only at okF lenF kRun ⊢
 obtain ⟨hs,hok⟩:=okF
 have kSt:=fun (W:World) (g:Nat) (fv:Value) (hM:Blk W g 71 (Rp.machR fv cs.1.val cs.2.1.val cs.2.2.val m))=>Rp.state_is hM hs
 have kB:=fun (W:World) (g:Nat) (fv:Value) (h:Rp.MachAt fv W g cs rows m) (hF:W.ownsRow w.heap.size 40 3 fv fs.length (flat fs))=>rbugs_is h hp hs hF (fun x hx=>okB_fitsQ (hok x hx)) (by simp at lenF;omega)
 have bw:Below w.heap.size w ((w.alloc (.cells #[.slice a 3 cap] 25)).alloc (.cells #[.slice none 0 0,.slice none 0 0,.slice none 0 0,.slice none 0 0] 30)):=by go_grown
 have pP:Blk ((w.alloc (.cells #[.slice a 3 cap] 25)).alloc (.cells #[.slice none 0 0,.slice none 0 0,.slice none 0 0,.slice none 0 0] 30)) w.heap.size 25 [.slice a 3 cap]:=blkOld _ (blkAt _ _ _ rfl)
 have pR:Blk ((w.alloc (.cells #[.slice a 3 cap] 25)).alloc (.cells #[.slice none 0 0,.slice none 0 0,.slice none 0 0,.slice none 0 0] 30)) (w.heap.size+1) 30 [.slice none 0 0,.slice none 0 0,.slice none 0 0,.slice none 0 0]:=blkAt _ _ _ (by simp)
 clear hC hV hL hs hok lenF hll hn
 go_enter Tryd.func8,Tryd.ntmps8
 go_wp2_with fail
 generalize ((w.alloc (.cells #[.slice a 3 cap] 25)).alloc (.cells #[.slice none 0 0,.slice none 0 0,.slice none 0 0,.slice none 0 0] 30))=U at *
 go_wp2_with (first | refine wpList_load_blk rfl 25 _ rfl w.heap.size rfl pP _ Tryd.underlying25 rfl (by kernel_rfl) ?_)
 refine (kN _ bw).mono ?_
 rintro e w1 ⟨rfl,hb⟩
 replace bw:=bel_trans bw hb
 replace pR:=pR.below hb
 have pN:=Blk.new w1 71 [.slice none 0 0,.int .i64 0,.int .i64 0,.int .i64 0,.slice none 0 0,.int .i64 0,.int .i64 0,.int .i64 0,.slice none 0 0,.int .i64 0,.int .i64 0,.int .i64 0,.int .i64 0,.int .i64 0,.int .i64 0,.int .i64 0,.int .i64 0,.int .i64 0,.slice none 0 0]
 have ha:Below w1.heap.size w1 (w1.alloc (.cells #[.slice none 0 0,.int .i64 0,.int .i64 0,.int .i64 0,.slice none 0 0,.int .i64 0,.int .i64 0,.int .i64 0,.slice none 0 0,.int .i64 0,.int .i64 0,.int .i64 0,.int .i64 0,.int .i64 0,.int .i64 0,.int .i64 0,.int .i64 0,.int .i64 0,.slice none 0 0] 71)):=by go_grown
 have hg1:w.heap.size+1<w1.heap.size:=pR.lt
 clear kN hb pP
 go_wp2_with (refine wpList_store_blk rfl 71 _ _ rfl w1.heap.size (Rp.machR (.slice none 0 0) cs.1.val cs.2.1.val cs.2.2.val zeroV) rfl rfl pN (by kernel_rfl) rfl rfl ?_)
 intro W pM g1
 replace pR:=(pR.below ha).kept g1 (by simp;omega)
 replace bw:=(bel_trans bw ha).grown g1 (by simp;omega) (fun x hx=>by cases hx;omega)
 have hgW:w.heap.size≤w1.heap.size:=by omega
 have pG:=pM.out
 clear g1 ha pN pM
 generalize w1.heap.size=g at *
 go_wp2_with fail
 refine (kRun W g bw hgW ⟨_,pG,World.ownsRow_nil _ _ _ _⟩ (hL0 _ bw)).mono ?_
 rintro e w2 ⟨rfl,⟨fv,hM2,hF2⟩,bw2,kp2⟩
 replace pR:=kp2.blk pR (by decide) (by decide)
 clear kRun hL0 kp2 bw pG
 go_wp2_with fail
 refine (kSt _ g fv hM2).mono ?_
 rintro e w3 ⟨⟨⟨⟨t0a,t0n,t0c⟩,⟨t1a,t1n,t1c⟩,⟨t2a,t2n,t2c⟩,⟨t3a,t3n,t3c⟩⟩,rfl,hO⟩,hb3⟩
 have uX:S4.val ((t0a,t0n,t0c),(t1a,t1n,t1c),(t2a,t2n,t2c),(t3a,t3n,t3c))=.agg #[.slice t0a t0n t0c,.slice t1a t1n t1c,.slice t2a t2n t2c,.slice t3a t3n t3c]:=rfl
 rw [uX]
 clear uX
 have bw3:=bel_trans bw2 hb3
 replace pR:=pR.below hb3
 have hO3:=hO.lowerB (B':=w.heap.size) bw2.size
 have kBx:=kB _ g fv (rowsMach (hR.below bw3) (hM2.below hb3)) (owns_below hF2 hb3)
 clear kSt kB hO hb3 hM2 hF2 bw2
 go_wp2_with fail
 refine kBx.mono ?_
 rintro e w4 ⟨⟨v,rfl,q⟩,hb4⟩
 have bw4:=bel_trans bw3 hb4
 replace pR:=pR.below hb4
 replace hO3:=hO3.below hb4
 replace q:=own_lowerB (B':=w.heap.size) q bw3.size
 clear kBx hb4 bw3 hR
 go_wp2_with (first | refine wpList_store_blk rfl 30 _ _ rfl (w.heap.size+1) [.slice t0a t0n t0c,.slice t1a t1n t1c,.slice t2a t2n t2c,.slice t3a t3n t3c] rfl rfl pR (by kernel_rfl) rfl rfl ?_)
 intro U2 pR2 g2
 have bz:=bw4.grown g2 bw4.size (fun k e=>by cases e;omega)
 have q2:=q.kept g2 (.inr (own_ne_blkR q pR (by decide)).symm)
 have hO4:=hO3.kept9 g2 pR (by decide)
 clear bw4 g2 pR q hO3
 go_wp2_with fail
 refine bodyPost_ret (results_blk3 Tryd.results8 _ _ _ _ _ _ rfl pR2.out Tryd.underlying30 rfl (by kernel_rfl)) rfl ?_
 exact ⟨RunGot.mk9 ((t0a,t0n,t0c),(t1a,t1n,t1c),(t2a,t2n,t2c),(t3a,t3n,t3c)) _ rfl hO4 q2,bz⟩

theorem implRunSchedule_is (a:Option Addr) (len cap:Nat) (rows:List (List I3)) (la:Option Addr) (n c:Nat) (ks:List Int) (w:World) (hC:Codes w a len cap rows) (hV:VmShape w) (hL:Ints .i64 w la n c ks) :
  Calls Tryd.prog 8 #[.agg #[.slice a len cap],.slice la n c] w fun e w'=>RunGot e w' w.heap.size (runZ rows ks) (runF rows ks) (runC rows ks)∧Below w.heap.size w w':=by
 unfold runZ runF runC
 rw [hL.1]
 by_cases hn:4096<n
 ·simp only [if_pos hn]
  exact implRunSchedule_long a len cap la n c w hn
 ·simp only [if_neg hn]
  cases hp:progOk rows
  ·exact implRunSchedule_bad a len cap rows la n c w hC hV hp hn
  ·exact implRunSchedule_ok a len cap rows la n c ks w hC hV hp hL hn


theorem runS_halt {rows:List (List I3)} {m:V4} {out:List I3} {ks:List Int} {i:Nat} (hi:i<ks.length) (h:haltM rows m (ks.getD i 0)≠0):runS rows m out (ks.drop i)=(m,out,haltM rows m (ks.getD i 0)):=by
 have e:ks.drop i=ks.getD i 0::ks.drop (i+1):=by rw [List.drop_eq_getElem_cons hi];simp [List.getD,hi]
 rw [e]
 show (if haltM rows m (ks.getD i 0)=0 then _ else _)=_
 rw [if_neg h]
theorem runS_go {rows:List (List I3)} {m:V4} {out:List I3} {ks:List Int} {i:Nat} (hi:i<ks.length) (h:haltM rows m (ks.getD i 0)=0):runS rows m out (ks.drop i)=runS rows (goM rows m (ks.getD i 0)).1 (mergeB out (foundM rows m (ks.getD i 0))) (ks.drop (i+1)):=by
 have e:ks.drop i=ks.getD i 0::ks.drop (i+1):=by rw [List.drop_eq_getElem_cons hi];simp [List.getD,hi]
 rw [e]
 show (if haltM rows m (ks.getD i 0)=0 then _ else _)=_
 rw [if_pos h]
theorem foundM_ok {rows:List (List I3)} {m:V4} {k:Int} (hp:progOk rows=true) (hs:shapeOk m=true) (hz:haltM rows m k=0):(∀ x ∈ foundM rows m k,okB x=true)∧(foundM rows m k).length≤2:=by
 have h1:=ownM_ok hp hs hz
 have h2:=ownM_len rows m k
 unfold foundM
 split
 ·refine ⟨fun x hx=>?_,?_⟩
  ·rw [mem_putB] at hx
   rcases hx with hx | hx
   ·exact h1 x hx
   ·subst hx;rfl
  ·have:=putB_len (ownM rows m k) (14,0,0)
   omega
 ·exact ⟨h1,by omega⟩
theorem mergeB_ok {xs ys:List I3} (h:∀ x ∈ xs,okB x=true) (k:∀ x ∈ ys,okB x=true):∀ x ∈ mergeB xs ys,okB x=true:=fun x hx=>by
 rw [mem_mergeB] at hx
 exact hx.elim (h x) (k x)

theorem held_zero (j:Nat):([0,0]:List Int).getD j 0=0:=by
 match j with
 | 0=>rfl
 | 1=>rfl
 | _+2=>rfl
theorem stuck_zero (rows:List (List I3)):stuckM rows zeroV=false:=by
 cases h:stuckM rows zeroV
 ·rfl
 ·have hc:∀ i,i<3→doneM rows zeroV i=true:=fun i hi=>by
   cases hd:doneM rows zeroV i
   ·have h1:canM rows zeroV i=true:=by
     unfold canM atLock
     rw [hd,show zeroV.2.2.1=[0,0] from rfl,held_zero]
     simp
    rw [can_not_stuck hi h1] at h
    cases h
   ·rfl
  unfold stuckM leftM at h
  simp [List.range',hc 0 (by decide),hc 1 (by decide),hc 2 (by decide)] at h

theorem instrs_rowS {w:World} {B cap:Nat} {a:Option Addr} {xs:List I3} (h:w.ownsRow B 40 3 (.slice a xs.length cap) xs.length (flat xs)) (hf:∀ x ∈ xs,I3.fits x):Instrs w a xs.length cap xs:=by
 obtain ⟨a',c',e,hI,_⟩:=bugs_sliceR h hf
 cases e
 exact hI
theorem ints_cellS {w:World} {a:Option Addr} {n c:Nat} {ks:List Int} (h:Ints .i64 w a n c ks) {i:Nat} (hi:i<n):∃ b off,a=some ⟨b,off,none⟩∧w.cell? ⟨b,off+i,none⟩=some (.int .i64 (ks.getD i 0))∧b<w.heap.size:=by
 obtain ⟨h1,h2,h3,h4⟩:=h
 rcases h4 with h4 | ⟨b,off,ha,hl,hc⟩
 ·omega
 ·exact ⟨b,off,ha,hc i hi,hl⟩

def OnS (w wr:World) (X:Nat) (a9:Option Addr) (cap:Nat) (rows:List (List I3)) (ks:List Int) (n i:Nat) (fin:V4 × List I3 × Int) (m:V4) (out:List I3) (v:Value):Prop:=
 i≤n∧runS rows m out (ks.drop i)=fin∧shapeOk m=true∧(∃ t:S4,Blk wr X 30 (vmC t)∧OwnV wr w.heap.size t m)∧wr.ownsRow w.heap.size 40 3 v out.length (flat out)∧(∀ x ∈ out,okB x=true)∧out.length≤1+2*i∧Below w.heap.size w wr∧Blk wr w.heap.size 25 [.slice a9 3 cap]∧Blk wr (w.heap.size+1) 30 [.slice none 0 0,.slice none 0 0,.slice none 0 0,.slice none 0 0]

theorem l04Run_is {w:World} {a9:Option Addr} {cap:Nat} {cs:Sl × Sl × Sl} {rows:List (List I3)} {la:Option Addr} {n c:Nat} {ks:List Int} (hR:RowsAt w a9 cs rows) (hp:progOk rows=true) (hL:Ints .i64 w la n c ks) (hn:n≤100000) :
  Calls Tryd.prog 32 #[.agg #[.slice a9 3 cap],.slice la n c] w fun e w'=>RunGot e w' w.heap.size (runS rows zeroV [] ks).1 (runS rows zeroV [] ks).2.1 (runS rows zeroV [] ks).2.2∧Below w.heap.size w w':=by
 have fz:=(shape_fits9 zero_shape).1
 have hll:=hL.1
 obtain ⟨fin,hfin⟩:∃ fin,fin=runS rows zeroV [] ks:=⟨_,rfl⟩
 rw [← hfin]
 have HFin:Hid (runS rows zeroV [] (ks.drop 0)=fin):=by rw [hfin];rfl
 clear hfin
 have kN:=specNewVm_is
 have kU:=fun (W:World) (hR:RowsAt W a9 cs rows) (t:S4) (h:Vmem W t zeroV)=>l03Stuck_is a9 3 cap rows t zeroV cs W rfl hR h hp zero_shape
 rw [stuck_zero] at kU
 have bw:Below w.heap.size w ((w.alloc (.cells #[.slice a9 3 cap] 25)).alloc (.cells #[.slice none 0 0,.slice none 0 0,.slice none 0 0,.slice none 0 0] 30)):=by go_grown
 have pP:Blk ((w.alloc (.cells #[.slice a9 3 cap] 25)).alloc (.cells #[.slice none 0 0,.slice none 0 0,.slice none 0 0,.slice none 0 0] 30)) w.heap.size 25 [.slice a9 3 cap]:=blkOld _ (blkAt _ _ _ rfl)
 have pZ:Blk ((w.alloc (.cells #[.slice a9 3 cap] 25)).alloc (.cells #[.slice none 0 0,.slice none 0 0,.slice none 0 0,.slice none 0 0] 30)) (w.heap.size+1) 30 [.slice none 0 0,.slice none 0 0,.slice none 0 0,.slice none 0 0]:=blkAt _ _ _ (by simp)
 go_enter Tryd.func32,Tryd.ntmps32
 go_wp2_with fail
 have hUw:w.heap.size≤((w.alloc (.cells #[.slice a9 3 cap] 25)).alloc (.cells #[.slice none 0 0,.slice none 0 0,.slice none 0 0,.slice none 0 0] 30)).heap.size:=bw.size
 generalize ((w.alloc (.cells #[.slice a9 3 cap] 25)).alloc (.cells #[.slice none 0 0,.slice none 0 0,.slice none 0 0,.slice none 0 0] 30))=U at *
 refine (kN _).mono ?_
 rintro e w1 ⟨⟨⟨⟨t0a,t0n,t0c⟩,⟨t1a,t1n,t1c⟩,⟨t2a,t2n,t2c⟩,⟨t3a,t3n,t3c⟩⟩,rfl,hO⟩,hb⟩
 have ut:S4.val ((t0a,t0n,t0c),(t1a,t1n,t1c),(t2a,t2n,t2c),(t3a,t3n,t3c))=.agg #[.slice t0a t0n t0c,.slice t1a t1n t1c,.slice t2a t2n t2c,.slice t3a t3n t3c]:=rfl
 rw [ut]
 replace bw:=bel_trans bw hb
 replace pP:=pP.below hb
 replace pZ:=pZ.below hb
 replace hO:=hO.lowerB (B':=w.heap.size) hUw
 have hX1:w.heap.size+1<w1.heap.size:=pZ.lt
 clear hb kN hUw
 have ha:Below w1.heap.size w1 ((w1.alloc (.cells #[.slice t0a t0n t0c,.slice t1a t1n t1c,.slice t2a t2n t2c,.slice t3a t3n t3c] 30)).alloc (.cells #[] 40)):=by go_grown
 have pS:Blk ((w1.alloc (.cells #[.slice t0a t0n t0c,.slice t1a t1n t1c,.slice t2a t2n t2c,.slice t3a t3n t3c] 30)).alloc (.cells #[] 40)) w1.heap.size 30 [.slice t0a t0n t0c,.slice t1a t1n t1c,.slice t2a t2n t2c,.slice t3a t3n t3c]:=blkOld _ (blkAt _ _ _ rfl)
 have q:((w1.alloc (.cells #[.slice t0a t0n t0c,.slice t1a t1n t1c,.slice t2a t2n t2c,.slice t3a t3n t3c] 30)).alloc (.cells #[] 40)).ownsRow w.heap.size 40 3 (.slice (some ⟨w1.heap.size+1,0,none⟩) 0 0) 0 []:=by
  have h9:=own_emptyB (w1.alloc (.cells #[.slice t0a t0n t0c,.slice t1a t1n t1c,.slice t2a t2n t2c,.slice t3a t3n t3c] 30)) 40 3 w.heap.size (by simp;omega)
  simpa using h9
 replace bw:=bel_trans bw ha
 replace hO:=hO.below ha
 replace pP:=pP.below ha
 replace pZ:=pZ.below ha
 have kUx:=kU _ (hR.below bw) _ (hO.mem fz)
 rw [ut] at kUx
 clear ha kU ut
 go_wp2_with (first | refine wpList_load_blk rfl 25 _ rfl w.heap.size rfl pP _ Tryd.underlying25 rfl (by kernel_rfl) ?_ | refine wpList_load_blk rfl 30 _ rfl w1.heap.size rfl pS _ Tryd.underlying30 rfl (by kernel_rfl) ?_)
 refine kUx.mono ?_
 rintro e W0 ⟨rfl,hb⟩
 replace bw:=bel_trans bw hb
 replace pP:=pP.below hb
 replace pZ:=pZ.below hb
 replace pS:=pS.below hb
 replace hO:=hO.below hb
 replace q:=owns_below q hb
 clear hb kUx fz
 go_wp2_with fail
 have st:OnS w W0 w1.heap.size a9 cap rows ks n 0 fin zeroV [] (.slice (some ⟨w1.heap.size+1,0,none⟩) 0 0):=⟨by omega,HFin.out,zero_shape,⟨((t0a,t0n,t0c),(t1a,t1n,t1c),(t2a,t2n,t2c),(t3a,t3n,t3c)),pS,hO⟩,q,by simp,by decide,bw,pP,pZ⟩
 clear HFin pS hO q bw pP pZ
 generalize w1.heap.size+1=g0 at *
 generalize w1.heap.size=X at *
 go_loopw [8,9] (fun so si wr=>∃ (i:Nat) (m':V4) (out:List I3),si=.int .i64 i∧OnS w wr X a9 cap rows ks n i fin m' out so) (fun _ si _=>n - (intOf si).toNat)
 case atStart=>exact ⟨0,_,_,rfl,st⟩
 case round =>
  clear st
  obtain ⟨i,m',out,rfl,hi,hr,hs,⟨⟨⟨t0a,t0n,t0c⟩,⟨t1a,t1n,t1c⟩,⟨t2a,t2n,t2c⟩,⟨t3a,t3n,t3c⟩⟩,pS,hO⟩,q,hok,hlo,bw,pP,pZ⟩:=hrel
  replace pS:Blk wr X 30 [.slice t0a t0n t0c,.slice t1a t1n t1c,.slice t2a t2n t2c,.slice t3a t3n t3c]:=pS
  by_cases hlt:i<n
  ·obtain ⟨lb,lo,rfl,hc,hlb⟩:=ints_cellS hL hlt
   replace hc:=cells_kept bw _ _ hc
   have HH:Hid (haltM rows m' (ks.getD i 0)≠0→fin=(m',out,haltM rows m' (ks.getD i 0))):=fun h0=>hr.symm.trans (runS_halt (by omega) h0)
   have HG:Hid (haltM rows m' (ks.getD i 0)=0→runS rows (goM rows m' (ks.getD i 0)).1 (mergeB out (foundM rows m' (ks.getD i 0))) (ks.drop (i+1))=fin):=fun h0=>(runS_go (by omega) h0).symm.trans hr
   have hlt':(i:Int)<(n:Int):=by omega
   have hi0:(0:Int)≤(i:Int):=by omega
   have fm:=(shape_fits9 hs).1
   generalize ks.getD i 0=kk at *
   clear hr
   have kI:=l01In_isB kk 0 2 wr
   have hXw2:=pS.lt
   have hl1:i≤100000:=by omega
   obtain ⟨va,vc,rfl,hI,hGd⟩:=bugs_sliceR q (fun x hx=>okB_fitsQ (hok x hx))
   clear hI hGd
   cases hin:inB kk 0 2
   ·rw [hin] at kI
    have hz:haltM rows m' kk=4:=by
     have:=inB_false.1 hin
     unfold haltM
     rw [if_neg (by omega)]
    have hfe:=HH.out (by rw [hz];decide)
    rw [hz] at hfe
    clear HH HG hz hin
    go_wp2_with fail
    refine kI.mono ?_
    rintro e w9 ⟨rfl,rfl⟩
    clear kI hc
    go_wp2_with (first | refine wpList_load_blk rfl 30 _ rfl X rfl pS _ Tryd.underlying30 rfl (by kernel_rfl) ?_ | refine wpList_store_blk rfl 30 _ _ rfl (w.heap.size+1) [.slice t0a t0n t0c,.slice t1a t1n t1c,.slice t2a t2n t2c,.slice t3a t3n t3c] rfl rfl pZ (by kernel_rfl) rfl rfl ?_)
    intro U2 pZ2 g2
    have bz:=bw.grown g2 bw.size (fun k e=>by cases e;omega)
    have q2:=q.kept g2 (own_apart_blk q pZ (by decide))
    have hO2:=hO.kept9 g2 pZ (by decide)
    clear bw g2 pZ q hO pS pP
    go_wp2_with fail
    refine bodyPost_ret (results_blk3 Tryd.results32 _ _ _ _ _ _ rfl pZ2.out Tryd.underlying30 rfl (by kernel_rfl)) rfl ?_
    rw [hfe]
    exact ⟨RunGot.mk9 ((t0a,t0n,t0c),(t1a,t1n,t1c),(t2a,t2n,t2c),(t3a,t3n,t3c)) _ rfl hO2 q2,bz⟩
   ·rw [hin] at kI
    obtain ⟨k,rfl⟩:∃ k:Nat,kk=k:=⟨kk.toNat,by have:=inB_true.1 hin;omega⟩
    have hk:k<3:=by have:=inB_true.1 hin;omega
    clear hin
    have kD:=fun (W:World) (b:Below w.heap.size w W) (h:Vmem W ((t0a,t0n,t0c),(t1a,t1n,t1c),(t2a,t2n,t2c),(t3a,t3n,t3c)) m')=>l03Done_is (cap:=cap) rfl (hR.below b) h hs hk
    have kC:=fun (W:World) (b:Below w.heap.size w W) (h:Vmem W ((t0a,t0n,t0c),(t1a,t1n,t1c),(t2a,t2n,t2c),(t3a,t3n,t3c)) m')=>l03Can_is (cap:=cap) rfl (hR.below b) h hp hs hk
    have ut:S4.val ((t0a,t0n,t0c),(t1a,t1n,t1c),(t2a,t2n,t2c),(t3a,t3n,t3c))=.agg #[.slice t0a t0n t0c,.slice t1a t1n t1c,.slice t2a t2n t2c,.slice t3a t3n t3c]:=rfl
    rw [ut] at kD kC
    go_wp2_with fail
    refine kI.mono ?_
    rintro e w9 ⟨rfl,rfl⟩
    clear kI
    go_wp2_with fail
    cases hd:doneM rows m' k
    ·simp only [hd] at kD
     have hdr:Below wr.heap.size wr wr.drew:=by go_grown
     have kx:=kD wr.drew (bel_trans bw hdr) ((hO.below hdr).mem fm)
     clear hdr
     refine wp_region_held_drew (S:=(fun w'=>w'.cell? ⟨w.heap.size,0,none⟩=some (.slice a9 3 cap)∧w'.cell? ⟨X,0,none⟩=some (.slice t0a t0n t0c)∧w'.cell? ⟨X,1,none⟩=some (.slice t1a t1n t1c)∧w'.cell? ⟨X,2,none⟩=some (.slice t2a t2n t2c)∧w'.cell? ⟨X,3,none⟩=some (.slice t3a t3n t3c)∧w'.cell? ⟨lb,lo+i,none⟩=some (.int .i64 (k:Int)))) (by kernel_rfl) ⟨by simpa using pP.cell 0,by simpa using pS.cell 0,by simpa using pS.cell 1,by simpa using pS.cell 2,by simpa using pS.cell 3,hc⟩ (fun hS0=>?_)
     refine tkm 0 34 (.agg #[.slice a9 3 cap]) ?_
     refine tkm 1 35 (.agg #[.slice t0a t0n t0c,.slice t1a t1n t1c,.slice t2a t2n t2c,.slice t3a t3n t3c]) ?_
     refine tkm 2 36 (.slice (some ⟨lb,lo,none⟩) n c) ?_
     refine tkm 3 37 (.int .i64 (i:Int)) ?_
     refine tkm 4 38 (.pointer (some ⟨lb,lo+i,none⟩)) ?_
     refine tkm 5 39 (.int .i64 (k:Int)) ?_
     refine tkr 6 40 (fun K hK=>?_)
     go_simp
     refine (kx).mono ?_
     rintro e u1 ⟨rfl,hb⟩
     go_wp2_with fail
     refine hK.out _ _ ?_ (fun hS1=>?_)
     ·exact ⟨cells_kept hb _ _ hS0.1,cells_kept hb _ _ hS0.2.1,cells_kept hb _ _ hS0.2.2.1,cells_kept hb _ _ hS0.2.2.2.1,cells_kept hb _ _ hS0.2.2.2.2.1,cells_kept hb _ _ hS0.2.2.2.2.2⟩
     clear hK
     refine wpAnyH_done (by kernel_rfl) ?_ _
     clear hS0 hS1 kx
     have hb9:=bel_trans (by go_grown:Below wr.heap.size wr wr.drew) hb
     replace bw:=bel_trans bw hb9
     replace pP:=pP.below hb9
     replace pZ:=pZ.below hb9
     replace pS:=pS.below hb9
     replace hO:=hO.below hb9
     replace q:=owns_below q hb9
     replace hc:=cells_kept hb9 _ _ hc
     clear hb hb9
     clear kD
     go_wp2_with fail
     cases hcn:canM rows m' k
     ·simp only [hcn] at kC
      have hdr:Below u1.heap.size u1 u1.drew:=by go_grown
      have kx:=kC u1.drew (bel_trans bw hdr) ((hO.below hdr).mem fm)
      clear hdr
      refine wp_region_held_drew (S:=(fun w'=>w'.cell? ⟨w.heap.size,0,none⟩=some (.slice a9 3 cap)∧w'.cell? ⟨X,0,none⟩=some (.slice t0a t0n t0c)∧w'.cell? ⟨X,1,none⟩=some (.slice t1a t1n t1c)∧w'.cell? ⟨X,2,none⟩=some (.slice t2a t2n t2c)∧w'.cell? ⟨X,3,none⟩=some (.slice t3a t3n t3c)∧w'.cell? ⟨lb,lo+i,none⟩=some (.int .i64 (k:Int)))) (by kernel_rfl) ⟨by simpa using pP.cell 0,by simpa using pS.cell 0,by simpa using pS.cell 1,by simpa using pS.cell 2,by simpa using pS.cell 3,hc⟩ (fun hS0=>?_)
      refine tkm 0 43 (.agg #[.slice a9 3 cap]) ?_
      refine tkm 1 44 (.agg #[.slice t0a t0n t0c,.slice t1a t1n t1c,.slice t2a t2n t2c,.slice t3a t3n t3c]) ?_
      refine tkm 2 45 (.slice (some ⟨lb,lo,none⟩) n c) ?_
      refine tkm 3 46 (.int .i64 (i:Int)) ?_
      refine tkm 4 47 (.pointer (some ⟨lb,lo+i,none⟩)) ?_
      refine tkm 5 48 (.int .i64 (k:Int)) ?_
      refine tkr 6 49 (fun K hK=>?_)
      go_simp
      refine (kx).mono ?_
      rintro e u2 ⟨rfl,hb⟩
      go_wp2_with fail
      refine hK.out _ _ ?_ (fun hS1=>?_)
      ·exact ⟨cells_kept hb _ _ hS0.1,cells_kept hb _ _ hS0.2.1,cells_kept hb _ _ hS0.2.2.1,cells_kept hb _ _ hS0.2.2.2.1,cells_kept hb _ _ hS0.2.2.2.2.1,cells_kept hb _ _ hS0.2.2.2.2.2⟩
      clear hK
      refine tkm 7 50 (.bool true) ?_
      refine wpAnyH_done (by kernel_rfl) ?_ _
      clear hS0 hS1 kx
      have hb9:=bel_trans (by go_grown:Below u1.heap.size u1 u1.drew) hb
      replace bw:=bel_trans bw hb9
      replace pP:=pP.below hb9
      replace pZ:=pZ.below hb9
      replace pS:=pS.below hb9
      replace hO:=hO.below hb9
      replace q:=owns_below q hb9
      replace hc:=cells_kept hb9 _ _ hc
      clear hb hb9
      clear kC
      have hz:haltM rows m' (k:Int)=11:=by
       unfold haltM
       rw [if_pos (by omega),Int.toNat_natCast]
       simp [hd,hcn]
      have hfe:=HH.out (by rw [hz];decide)
      rw [hz] at hfe
      clear HH HG hz hd hcn hc
      go_wp2_with (first | refine wpList_load_blk rfl 30 _ rfl X rfl pS _ Tryd.underlying30 rfl (by kernel_rfl) ?_ | refine wpList_store_blk rfl 30 _ _ rfl (w.heap.size+1) [.slice t0a t0n t0c,.slice t1a t1n t1c,.slice t2a t2n t2c,.slice t3a t3n t3c] rfl rfl pZ (by kernel_rfl) rfl rfl ?_)
      intro U2 pZ2 g2
      have bz:=bw.grown g2 bw.size (fun k e=>by cases e;omega)
      have q2:=q.kept g2 (own_apart_blk q pZ (by decide))
      have hO2:=hO.kept9 g2 pZ (by decide)
      clear bw g2 pZ q hO pS pP
      go_wp2_with fail
      refine bodyPost_ret (results_blk3 Tryd.results32 _ _ _ _ _ _ rfl pZ2.out Tryd.underlying30 rfl (by kernel_rfl)) rfl ?_
      rw [hfe]
      exact ⟨RunGot.mk9 ((t0a,t0n,t0c),(t1a,t1n,t1c),(t2a,t2n,t2c),(t3a,t3n,t3c)) _ rfl hO2 q2,bz⟩
     ·simp only [hcn] at kC
      have hdr:Below u1.heap.size u1 u1.drew:=by go_grown
      have kx:=kC u1.drew (bel_trans bw hdr) ((hO.below hdr).mem fm)
      clear hdr
      refine wp_region_held_drew (S:=(fun w'=>w'.cell? ⟨w.heap.size,0,none⟩=some (.slice a9 3 cap)∧w'.cell? ⟨X,0,none⟩=some (.slice t0a t0n t0c)∧w'.cell? ⟨X,1,none⟩=some (.slice t1a t1n t1c)∧w'.cell? ⟨X,2,none⟩=some (.slice t2a t2n t2c)∧w'.cell? ⟨X,3,none⟩=some (.slice t3a t3n t3c)∧w'.cell? ⟨lb,lo+i,none⟩=some (.int .i64 (k:Int)))) (by kernel_rfl) ⟨by simpa using pP.cell 0,by simpa using pS.cell 0,by simpa using pS.cell 1,by simpa using pS.cell 2,by simpa using pS.cell 3,hc⟩ (fun hS0=>?_)
      refine tkm 0 43 (.agg #[.slice a9 3 cap]) ?_
      refine tkm 1 44 (.agg #[.slice t0a t0n t0c,.slice t1a t1n t1c,.slice t2a t2n t2c,.slice t3a t3n t3c]) ?_
      refine tkm 2 45 (.slice (some ⟨lb,lo,none⟩) n c) ?_
      refine tkm 3 46 (.int .i64 (i:Int)) ?_
      refine tkm 4 47 (.pointer (some ⟨lb,lo+i,none⟩)) ?_
      refine tkm 5 48 (.int .i64 (k:Int)) ?_
      refine tkr 6 49 (fun K hK=>?_)
      go_simp
      refine (kx).mono ?_
      rintro e u2 ⟨rfl,hb⟩
      go_wp2_with fail
      refine hK.out _ _ ?_ (fun hS1=>?_)
      ·exact ⟨cells_kept hb _ _ hS0.1,cells_kept hb _ _ hS0.2.1,cells_kept hb _ _ hS0.2.2.1,cells_kept hb _ _ hS0.2.2.2.1,cells_kept hb _ _ hS0.2.2.2.2.1,cells_kept hb _ _ hS0.2.2.2.2.2⟩
      clear hK
      refine tkm 7 50 (.bool false) ?_
      refine wpAnyH_done (by kernel_rfl) ?_ _
      clear hS0 hS1 kx
      have hb9:=bel_trans (by go_grown:Below u1.heap.size u1 u1.drew) hb
      replace bw:=bel_trans bw hb9
      replace pP:=pP.below hb9
      replace pZ:=pZ.below hb9
      replace pS:=pS.below hb9
      replace hO:=hO.below hb9
      replace q:=owns_below q hb9
      replace hc:=cells_kept hb9 _ _ hc
      clear hb hb9
      clear kC
      have hz:haltM rows m' (k:Int)=0:=by
       unfold haltM
       rw [if_pos (by omega),Int.toNat_natCast]
       simp [hd,hcn]
      have hfe:=HG.out hz
      have hfo:=foundM_ok hp hs hz
      have hs2:=goM_shape hp hs hz
      have kF:=fun (W:World) (b:Below w.heap.size w W) (h:Vmem W ((t0a,t0n,t0c),(t1a,t1n,t1c),(t2a,t2n,t2c),(t3a,t3n,t3c)) m')=>l04Found_is (cap:=cap) (hR.below b) h hp hs hk hd
      rw [ut] at kF
      generalize (goM rows m' (k:Int)).1=z at *
      generalize foundM rows m' (k:Int)=fs at *
      clear HH HG hz hd hcn ut
      go_wp2_with fail
      have hb9:Below u2.heap.size u2 u2.drew:=by go_grown
      refine wp_region_held_drew (S:=(fun w'=>w'.cell? ⟨w.heap.size,0,none⟩=some (.slice a9 3 cap)∧w'.cell? ⟨X,0,none⟩=some (.slice t0a t0n t0c)∧w'.cell? ⟨X,1,none⟩=some (.slice t1a t1n t1c)∧w'.cell? ⟨X,2,none⟩=some (.slice t2a t2n t2c)∧w'.cell? ⟨X,3,none⟩=some (.slice t3a t3n t3c)∧w'.cell? ⟨lb,lo+i,none⟩=some (.int .i64 (k:Int)))) (by kernel_rfl) ⟨by simpa using pP.cell 0,by simpa using pS.cell 0,by simpa using pS.cell 1,by simpa using pS.cell 2,by simpa using pS.cell 3,hc⟩ (fun hS0=>?_)
      refine tkm 0 54 (.agg #[.slice a9 3 cap]) ?_
      refine tkm 1 55 (.agg #[.slice t0a t0n t0c,.slice t1a t1n t1c,.slice t2a t2n t2c,.slice t3a t3n t3c]) ?_
      refine tkm 2 56 (.slice (some ⟨lb,lo,none⟩) n c) ?_
      refine tkm 3 57 (.int .i64 (i:Int)) ?_
      refine tkm 4 58 (.pointer (some ⟨lb,lo+i,none⟩)) ?_
      refine tkm 5 59 (.int .i64 (k:Int)) ?_
      replace bw:=bel_trans bw hb9
      replace pP:=pP.below hb9
      replace pZ:=pZ.below hb9
      replace pS:=pS.below hb9
      replace hO:=hO.below hb9
      replace q:=owns_below q hb9
      replace hc:=cells_kept hb9 _ _ hc
      clear hb9
      have kFg:=kF
      have kFx:=kF _ bw (hO.mem fm)
      clear kF
      generalize u2.drew=V at *
      refine wpAnyH_ready (rs:=[6,10]) (by kernel_rfl) (by simp) ?_
      refine AllReadyH.cons (o:=⟨some 60,_,_,_,_,_⟩) rfl (fun K hK=>?_) (AllReadyH.cons (o:=⟨some 10,_,_,_,_,_⟩) rfl (fun K hK=>?_) AllReadyH.nil)
      ·go_simp
       refine kFx.mono ?_
       rintro e V1 ⟨⟨⟨⟨z0a,z0n,z0c⟩,⟨z1a,z1n,z1c⟩,⟨z2a,z2n,z2c⟩,⟨z3a,z3n,z3c⟩⟩,v9,rfl,hO2,q2⟩,hb⟩
       have uz:S4.val ((z0a,z0n,z0c),(z1a,z1n,z1c),(z2a,z2n,z2c),(z3a,z3n,z3c))=.agg #[.slice z0a z0n z0c,.slice z1a z1n z1c,.slice z2a z2n z2c,.slice z3a z3n z3c]:=rfl
       rw [uz]
       replace hO2:=hO2.lowerB (B':=w.heap.size) bw.size
       replace q2:=own_lowerB (B':=w.heap.size) q2 bw.size
       obtain ⟨fa,fc,rfl,hI9,hGd9⟩:=bugs_sliceR q2 (fun x hx=>okB_fitsQ (hfo.1 x hx))
       clear hI9 hGd9
       replace bw:=bel_trans bw hb
       replace pP:=pP.below hb
       replace pZ:=pZ.below hb
       replace pS:=pS.below hb
       replace hO:=hO.below hb
       replace q:=owns_below q hb
       replace hc:=cells_kept hb _ _ hc
       clear hb kFx uz
       go_wp2_with fail
       refine hK.out _ _ ⟨by simpa using pP.cell 0,by simpa using pS.cell 0,by simpa using pS.cell 1,by simpa using pS.cell 2,by simpa using pS.cell 3,hc⟩ (fun hS5=>?_)
       clear hK
       try simp only [Act.put,tka,tkb,tkc]
       refine tkm 7 53 (.tuple #[.agg #[.slice z0a z0n z0c,.slice z1a z1n z1c,.slice z2a z2n z2c,.slice z3a z3n z3c],.slice fa fs.length fc]) ?_
       refine tkm 8 61 (.agg #[.slice z0a z0n z0c,.slice z1a z1n z1c,.slice z2a z2n z2c,.slice z3a z3n z3c]) ?_
       refine tkm 9 62 (.slice fa fs.length fc) ?_
       refine tkr 10 10 (fun K hK=>?_)
       have hb:Below V1.heap.size V1 (V1.alloc (.cells #[.slice none 0 0,.slice none 0 0,.slice none 0 0,.slice none 0 0] 30)):=by go_grown
       have pX:Blk (V1.alloc (.cells #[.slice none 0 0,.slice none 0 0,.slice none 0 0,.slice none 0 0] 30)) V1.heap.size 30 [.slice none 0 0,.slice none 0 0,.slice none 0 0,.slice none 0 0]:=blkAt _ _ _ rfl
       have hX9:w.heap.size+1<V1.heap.size∧X<V1.heap.size:=⟨pZ.lt,pS.lt⟩
       replace bw:=bel_trans bw hb
       replace pP:=pP.below hb
       replace pZ:=pZ.below hb
       replace pS:=pS.below hb
       replace hO:=hO.below hb
       replace q:=owns_below q hb
       replace hc:=cells_kept hb _ _ hc
       replace hO2:=hO2.below hb
       replace q2:=owns_below q2 hb
       go_simp
       refine hK.out _ _ ⟨by simpa using pP.cell 0,by simpa using pS.cell 0,by simpa using pS.cell 1,by simpa using pS.cell 2,by simpa using pS.cell 3,hc⟩ (fun hS6=>?_)
       clear hK hb
       generalize (V1.alloc (.cells #[.slice none 0 0,.slice none 0 0,.slice none 0 0,.slice none 0 0] 30))=V2 at *
       generalize V1.heap.size=Y at *
       try simp only [Act.put,tka,tkb,tkc]
       refine tkz 11 (fun K hK=>?_)
       refine step_store_blkD rfl 30 _ _ rfl Y [.slice z0a z0n z0c,.slice z1a z1n z1c,.slice z2a z2n z2c,.slice z3a z3n z3c] rfl rfl pX (by kernel_rfl) rfl rfl ?_
       intro V8 pX8 g8
       have m0:(some Y:Option Nat)≠some w.heap.size:=by simp;omega
       have m1:(some Y:Option Nat)≠some (w.heap.size+1):=by simp;omega
       have m2:(some Y:Option Nat)≠some X:=by simp;omega
       replace hO2:=hO2.kept9 g8 pX (by decide)
       replace q2:=q2.kept g8 (own_apart_blk q2 pX (by decide))
       replace q:=q.kept g8 (own_apart_blk q pX (by decide))
       replace pP:=pP.kept g8 m0
       replace pZ:=pZ.kept g8 m1
       replace pS:=pS.kept g8 m2
       replace bw:=bw.grown g8 bw.size (fun j hj=>by cases hj;omega)
       replace hc:=cell_grownB g8 hc (by simp;omega)
       refine hK.out _ _ ⟨by simpa using pP.cell 0,by simpa using pS.cell 0,by simpa using pS.cell 1,by simpa using pS.cell 2,by simpa using pS.cell 3,hc⟩ (fun hS7=>?_)
       clear hK m0 m1 m2 pX g8 hO
       have pX:=pX8.out
       clear pX8
       try simp only [Act.put,tka,tkb,tkc]
       refine tkm 12 11 (.slice fa fs.length fc) ?_
       refine wpAnyH_done (by kernel_rfl) ?_ _
       clear hS0 hS5 hS6 hS7 hc
       go_wp2_with (first | refine wpList_load_blk rfl 30 _ rfl Y rfl pX _ Tryd.underlying30 rfl (by kernel_rfl) ?_ | refine wpList_store_blk rfl 30 _ _ rfl X [.slice z0a z0n z0c,.slice z1a z1n z1c,.slice z2a z2n z2c,.slice z3a z3n z3c] rfl rfl pS (by kernel_rfl) rfl rfl ?_)
       intro V9 pS9 g9
       have m0:(some X:Option Nat)≠some w.heap.size:=by simp;omega
       have m1:(some X:Option Nat)≠some (w.heap.size+1):=by simp;omega
       replace hO2:=hO2.kept9 g9 pS (by decide)
       replace q2:=q2.kept g9 (own_apart_blk q2 pS (by decide))
       replace q:=q.kept g9 (own_apart_blk q pS (by decide))
       replace pP:=pP.kept g9 m0
       replace pZ:=pZ.kept g9 m1
       replace bw:=bw.grown g9 bw.size (fun j hj=>by cases hj;omega)
       have pS:=pS9.out
       clear pS9 g9 m0 m1 pX
       have hI:=instrs_rowS q (fun x hx=>okB_fitsQ (hok x hx))
       have hI2:=instrs_rowS q2 (fun x hx=>okB_fitsQ (hfo.1 x hx))
       have kM:=l04Merge_is va out.length vc out fa fs.length fc fs V9 hI hI2 (by omega) (by omega)
       clear hI hI2 q2 q
       go_wp2_with fail
       refine kM.mono ?_
       rintro e V10 ⟨⟨v6,rfl,q6⟩,hb⟩
       replace q6:=own_lowerB (B':=w.heap.size) q6 bw.size
       have st6:OnS w V10 X a9 cap rows ks n (i+1) fin z (mergeB out fs) v6:=⟨by omega,hfe,hs2,⟨((z0a,z0n,z0c),(z1a,z1n,z1c),(z2a,z2n,z2c),(z3a,z3n,z3c)),pS.below hb,hO2.below hb⟩,q6,mergeB_ok hok hfo.1,by have:=mergeB_len out fs;have:=hfo.2;omega,bel_trans bw hb,pP.below hb,pZ.below hb⟩
       clear hb q6 kM pS hO2 bw pP pZ hok hfo hs2 hs fm hfe hXw2 hX9 hlo
       go_wp2
       go_roundw
       case rel=>exact ⟨i+1,_,_,by go_num,st6⟩
       case measure=>simp [intOf];omega
      ·have hb:Below V.heap.size V (V.alloc (.cells #[.slice none 0 0,.slice none 0 0,.slice none 0 0,.slice none 0 0] 30)):=by go_grown
       have pX:Blk (V.alloc (.cells #[.slice none 0 0,.slice none 0 0,.slice none 0 0,.slice none 0 0] 30)) V.heap.size 30 [.slice none 0 0,.slice none 0 0,.slice none 0 0,.slice none 0 0]:=blkAt _ _ _ rfl
       have hX9:w.heap.size+1<V.heap.size∧X<V.heap.size:=⟨pZ.lt,pS.lt⟩
       replace bw:=bel_trans bw hb
       replace pP:=pP.below hb
       replace pZ:=pZ.below hb
       replace pS:=pS.below hb
       replace hO:=hO.below hb
       replace q:=owns_below q hb
       replace hc:=cells_kept hb _ _ hc
       go_simp
       refine hK.out _ _ ⟨by simpa using pP.cell 0,by simpa using pS.cell 0,by simpa using pS.cell 1,by simpa using pS.cell 2,by simpa using pS.cell 3,hc⟩ (fun hS6=>?_)
       clear hK hb
       generalize (V.alloc (.cells #[.slice none 0 0,.slice none 0 0,.slice none 0 0,.slice none 0 0] 30))=V2 at *
       generalize V.heap.size=Y at *
       try simp only [Act.put,tka,tkb,tkc]
       have kFx:=kFg _ bw (hO.mem fm)
       clear kFg
       refine tkr 6 60 (fun K hK=>?_)
       go_simp
       refine kFx.mono ?_
       rintro e V3 ⟨⟨⟨⟨z0a,z0n,z0c⟩,⟨z1a,z1n,z1c⟩,⟨z2a,z2n,z2c⟩,⟨z3a,z3n,z3c⟩⟩,v9,rfl,hO2,q2⟩,hb⟩
       have uz:S4.val ((z0a,z0n,z0c),(z1a,z1n,z1c),(z2a,z2n,z2c),(z3a,z3n,z3c))=.agg #[.slice z0a z0n z0c,.slice z1a z1n z1c,.slice z2a z2n z2c,.slice z3a z3n z3c]:=rfl
       rw [uz]
       replace hO2:=hO2.lowerB (B':=w.heap.size) bw.size
       replace q2:=own_lowerB (B':=w.heap.size) q2 bw.size
       obtain ⟨fa,fc,rfl,hI9,hGd9⟩:=bugs_sliceR q2 (fun x hx=>okB_fitsQ (hfo.1 x hx))
       clear hI9 hGd9
       replace bw:=bel_trans bw hb
       replace pP:=pP.below hb
       replace pZ:=pZ.below hb
       replace pS:=pS.below hb
       replace hO:=hO.below hb
       replace q:=owns_below q hb
       replace pX:=pX.below hb
       replace hc:=cells_kept hb _ _ hc
       clear hb kFx uz
       go_wp2_with fail
       refine hK.out _ _ ⟨by simpa using pP.cell 0,by simpa using pS.cell 0,by simpa using pS.cell 1,by simpa using pS.cell 2,by simpa using pS.cell 3,hc⟩ (fun hS5=>?_)
       clear hK
       try simp only [Act.put,tka,tkb,tkc]
       refine tkm 7 53 (.tuple #[.agg #[.slice z0a z0n z0c,.slice z1a z1n z1c,.slice z2a z2n z2c,.slice z3a z3n z3c],.slice fa fs.length fc]) ?_
       refine tkm 8 61 (.agg #[.slice z0a z0n z0c,.slice z1a z1n z1c,.slice z2a z2n z2c,.slice z3a z3n z3c]) ?_
       refine tkm 9 62 (.slice fa fs.length fc) ?_
       refine tkz 11 (fun K hK=>?_)
       refine step_store_blkD rfl 30 _ _ rfl Y [.slice z0a z0n z0c,.slice z1a z1n z1c,.slice z2a z2n z2c,.slice z3a z3n z3c] rfl rfl pX (by kernel_rfl) rfl rfl ?_
       intro V8 pX8 g8
       have m0:(some Y:Option Nat)≠some w.heap.size:=by simp;omega
       have m1:(some Y:Option Nat)≠some (w.heap.size+1):=by simp;omega
       have m2:(some Y:Option Nat)≠some X:=by simp;omega
       replace hO2:=hO2.kept9 g8 pX (by decide)
       replace q2:=q2.kept g8 (own_apart_blk q2 pX (by decide))
       replace q:=q.kept g8 (own_apart_blk q pX (by decide))
       replace pP:=pP.kept g8 m0
       replace pZ:=pZ.kept g8 m1
       replace pS:=pS.kept g8 m2
       replace bw:=bw.grown g8 bw.size (fun j hj=>by cases hj;omega)
       replace hc:=cell_grownB g8 hc (by simp;omega)
       refine hK.out _ _ ⟨by simpa using pP.cell 0,by simpa using pS.cell 0,by simpa using pS.cell 1,by simpa using pS.cell 2,by simpa using pS.cell 3,hc⟩ (fun hS7=>?_)
       clear hK m0 m1 m2 pX g8 hO
       have pX:=pX8.out
       clear pX8
       try simp only [Act.put,tka,tkb,tkc]
       refine tkm 12 11 (.slice fa fs.length fc) ?_
       refine wpAnyH_done (by kernel_rfl) ?_ _
       clear hS0 hS5 hS6 hS7 hc
       go_wp2_with (first | refine wpList_load_blk rfl 30 _ rfl Y rfl pX _ Tryd.underlying30 rfl (by kernel_rfl) ?_ | refine wpList_store_blk rfl 30 _ _ rfl X [.slice z0a z0n z0c,.slice z1a z1n z1c,.slice z2a z2n z2c,.slice z3a z3n z3c] rfl rfl pS (by kernel_rfl) rfl rfl ?_)
       intro V9 pS9 g9
       have m0:(some X:Option Nat)≠some w.heap.size:=by simp;omega
       have m1:(some X:Option Nat)≠some (w.heap.size+1):=by simp;omega
       replace hO2:=hO2.kept9 g9 pS (by decide)
       replace q2:=q2.kept g9 (own_apart_blk q2 pS (by decide))
       replace q:=q.kept g9 (own_apart_blk q pS (by decide))
       replace pP:=pP.kept g9 m0
       replace pZ:=pZ.kept g9 m1
       replace bw:=bw.grown g9 bw.size (fun j hj=>by cases hj;omega)
       have pS:=pS9.out
       clear pS9 g9 m0 m1 pX
       have hI:=instrs_rowS q (fun x hx=>okB_fitsQ (hok x hx))
       have hI2:=instrs_rowS q2 (fun x hx=>okB_fitsQ (hfo.1 x hx))
       have kM:=l04Merge_is va out.length vc out fa fs.length fc fs V9 hI hI2 (by omega) (by omega)
       clear hI hI2 q2 q
       go_wp2_with fail
       refine kM.mono ?_
       rintro e V10 ⟨⟨v6,rfl,q6⟩,hb⟩
       replace q6:=own_lowerB (B':=w.heap.size) q6 bw.size
       have st6:OnS w V10 X a9 cap rows ks n (i+1) fin z (mergeB out fs) v6:=⟨by omega,hfe,hs2,⟨((z0a,z0n,z0c),(z1a,z1n,z1c),(z2a,z2n,z2c),(z3a,z3n,z3c)),pS.below hb,hO2.below hb⟩,q6,mergeB_ok hok hfo.1,by have:=mergeB_len out fs;have:=hfo.2;omega,bel_trans bw hb,pP.below hb,pZ.below hb⟩
       clear hb q6 kM pS hO2 bw pP pZ hok hfo hs2 hs fm hfe hXw2 hX9 hlo
       go_wp2
       go_roundw
       case rel=>exact ⟨i+1,_,_,by go_num,st6⟩
       case measure=>simp [intOf];omega
    ·simp only [hd] at kD
     have hdr:Below wr.heap.size wr wr.drew:=by go_grown
     have kx:=kD wr.drew (bel_trans bw hdr) ((hO.below hdr).mem fm)
     clear hdr
     refine wp_region_held_drew (S:=(fun w'=>w'.cell? ⟨w.heap.size,0,none⟩=some (.slice a9 3 cap)∧w'.cell? ⟨X,0,none⟩=some (.slice t0a t0n t0c)∧w'.cell? ⟨X,1,none⟩=some (.slice t1a t1n t1c)∧w'.cell? ⟨X,2,none⟩=some (.slice t2a t2n t2c)∧w'.cell? ⟨X,3,none⟩=some (.slice t3a t3n t3c)∧w'.cell? ⟨lb,lo+i,none⟩=some (.int .i64 (k:Int)))) (by kernel_rfl) ⟨by simpa using pP.cell 0,by simpa using pS.cell 0,by simpa using pS.cell 1,by simpa using pS.cell 2,by simpa using pS.cell 3,hc⟩ (fun hS0=>?_)
     refine tkm 0 34 (.agg #[.slice a9 3 cap]) ?_
     refine tkm 1 35 (.agg #[.slice t0a t0n t0c,.slice t1a t1n t1c,.slice t2a t2n t2c,.slice t3a t3n t3c]) ?_
     refine tkm 2 36 (.slice (some ⟨lb,lo,none⟩) n c) ?_
     refine tkm 3 37 (.int .i64 (i:Int)) ?_
     refine tkm 4 38 (.pointer (some ⟨lb,lo+i,none⟩)) ?_
     refine tkm 5 39 (.int .i64 (k:Int)) ?_
     refine tkr 6 40 (fun K hK=>?_)
     go_simp
     refine (kx).mono ?_
     rintro e u1 ⟨rfl,hb⟩
     go_wp2_with fail
     refine hK.out _ _ ?_ (fun hS1=>?_)
     ·exact ⟨cells_kept hb _ _ hS0.1,cells_kept hb _ _ hS0.2.1,cells_kept hb _ _ hS0.2.2.1,cells_kept hb _ _ hS0.2.2.2.1,cells_kept hb _ _ hS0.2.2.2.2.1,cells_kept hb _ _ hS0.2.2.2.2.2⟩
     clear hK
     refine wpAnyH_done (by kernel_rfl) ?_ _
     clear hS0 hS1 kx
     have hb9:=bel_trans (by go_grown:Below wr.heap.size wr wr.drew) hb
     replace bw:=bel_trans bw hb9
     replace pP:=pP.below hb9
     replace pZ:=pZ.below hb9
     replace pS:=pS.below hb9
     replace hO:=hO.below hb9
     replace q:=owns_below q hb9
     replace hc:=cells_kept hb9 _ _ hc
     clear hb hb9
     clear kD kC
     have hz:haltM rows m' (k:Int)=10:=by
      unfold haltM
      rw [if_pos (by omega),Int.toNat_natCast]
      simp [hd]
     have hfe:=HH.out (by rw [hz];decide)
     rw [hz] at hfe
     clear HH HG hz hd hc
     go_wp2_with (first | refine wpList_load_blk rfl 30 _ rfl X rfl pS _ Tryd.underlying30 rfl (by kernel_rfl) ?_ | refine wpList_store_blk rfl 30 _ _ rfl (w.heap.size+1) [.slice t0a t0n t0c,.slice t1a t1n t1c,.slice t2a t2n t2c,.slice t3a t3n t3c] rfl rfl pZ (by kernel_rfl) rfl rfl ?_)
     intro U2 pZ2 g2
     have bz:=bw.grown g2 bw.size (fun k e=>by cases e;omega)
     have q2:=q.kept g2 (own_apart_blk q pZ (by decide))
     have hO2:=hO.kept9 g2 pZ (by decide)
     clear bw g2 pZ q hO pS pP
     go_wp2_with fail
     refine bodyPost_ret (results_blk3 Tryd.results32 _ _ _ _ _ _ rfl pZ2.out Tryd.underlying30 rfl (by kernel_rfl)) rfl ?_
     rw [hfe]
     exact ⟨RunGot.mk9 ((t0a,t0n,t0c),(t1a,t1n,t1c),(t2a,t2n,t2c),(t3a,t3n,t3c)) _ rfl hO2 q2,bz⟩
  ·obtain rfl:i=n:=by omega
   have hfe:fin=(m',out,0):=by rw [← hr,List.drop_of_length_le (by omega)];rfl
   clear hr
   have hXw2:=pS.lt
   obtain ⟨va,vc,rfl,hI,hGd⟩:=bugs_sliceR q (fun x hx=>okB_fitsQ (hok x hx))
   clear hI hGd
   go_wp2_with (first | refine wpList_load_blk rfl 30 _ rfl X rfl pS _ Tryd.underlying30 rfl (by kernel_rfl) ?_ | refine wpList_store_blk rfl 30 _ _ rfl (w.heap.size+1) [.slice t0a t0n t0c,.slice t1a t1n t1c,.slice t2a t2n t2c,.slice t3a t3n t3c] rfl rfl pZ (by kernel_rfl) rfl rfl ?_)
   intro U2 pZ2 g2
   have bz:=bw.grown g2 bw.size (fun k e=>by cases e;omega)
   have q2:=q.kept g2 (own_apart_blk q pZ (by decide))
   have hO2:=hO.kept9 g2 pZ (by decide)
   clear bw g2 pZ q hO pS pP
   go_wp2_with fail
   refine bodyPost_ret (results_blk3 Tryd.results32 _ _ _ _ _ _ rfl pZ2.out Tryd.underlying30 rfl (by kernel_rfl)) rfl ?_
   rw [hfe]
   exact ⟨RunGot.mk9 ((t0a,t0n,t0c),(t1a,t1n,t1c),(t2a,t2n,t2c),(t3a,t3n,t3c)) _ rfl hO2 q2,bz⟩
end Go.Proofs.YtjgffnlmjmibgaaDoor
