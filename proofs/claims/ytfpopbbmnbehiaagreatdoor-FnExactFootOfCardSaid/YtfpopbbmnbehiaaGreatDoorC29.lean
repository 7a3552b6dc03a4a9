/-
  Joined: SpecP#3, StepQ.
-/
import Derived.Test.YtfpopbbmnbehiaaGreatDoorC28

namespace Go.Proofs.YtfpopbbmnbehiaaGreatDoor
set_option maxRecDepth 100000
set_option maxHeartbeats 16000000
open Go.RowKit
set_option linter.unusedVariables false
set_option linter.unusedSimpArgs false

theorem lstep_stay (b off len cap b0 o0 c0 b1 o1 c1 b2 o2 c2 b3 o3 c3 k cb co cn cc p:Nat) (a r:Nat) (z:Int) (m:V4) (w:World) (hk:k<3) (hlen:len=3) (hp:p<cn) (hp6:p≤6) (hs:shapeOk m=true) (hMm:Vmem w ((some ⟨b0,o0,none⟩,3,c0),(some ⟨b1,o1,none⟩,4,c1),(some ⟨b2,o2,none⟩,2,c2),(some ⟨b3,o3,none⟩,6,c3)) m) (hpc:m.1.getD k 0=p)
  (e0:w.cell? ⟨b,off+k,none⟩=some (.slice (some ⟨cb,co,none⟩) cn cc)) (e1:w.cell? ⟨b0,o0+k,none⟩=some (.int .i64 p)) (q0:w.cell? ⟨cb,co+p*3,none⟩=some (.int .i64 7)) (q1:w.cell? ⟨cb,co+p*3+1,none⟩=some (.int .i64 a)) (q2:w.cell? ⟨cb,co+p*3+2,none⟩=some (.int .i64 z)) (hr6:r<6) (hri:(k:Int)*2+(a:Int)=(r:Int)) (hvv:m.2.2.2.getD r 0=0) :
  Calls Tryz.prog 102 #[.agg #[.slice (some ⟨b,off,none⟩) len cap],.agg #[.slice (some ⟨b0,o0,none⟩) 3 c0,.slice (some ⟨b1,o1,none⟩) 4 c1,.slice (some ⟨b2,o2,none⟩) 2 c2,.slice (some ⟨b3,o3,none⟩) 6 c3],.int .i64 k] w fun e w'=>VmGot e w' w.heap.size (m.1.set k ((p:Int)+1),m.2) 0∧Below w.heap.size w w':=by
 have hL:=LenOk.of hs
 have kO:=fun (W:World) (hb:Below w.heap.size w W)=>l03Own_is ((some ⟨b0,o0,none⟩,3,c0),(some ⟨b1,o1,none⟩,4,c1),(some ⟨b2,o2,none⟩,2,c2),(some ⟨b3,o3,none⟩,6,c3)) m W (hMm.below hb) hs
 have uA:S4.val ((some ⟨b0,o0,none⟩,3,c0),(some ⟨b1,o1,none⟩,4,c1),(some ⟨b2,o2,none⟩,2,c2),(some ⟨b3,o3,none⟩,6,c3))=.agg #[.slice (some ⟨b0,o0,none⟩) 3 c0,.slice (some ⟨b1,o1,none⟩) 4 c1,.slice (some ⟨b2,o2,none⟩) 2 c2,.slice (some ⟨b3,o3,none⟩) 6 c3]:=rfl
 rw [uA] at kO
 clear uA
 have hk3:(k:Int)<3:=by omega
 have hkl:(k:Int)<(len:Int):=by omega
 have hpn:(p:Int)<(cn:Int):=by omega
 clear hlen
 have bw:Below w.heap.size w (((w.alloc (.cells #[.slice (some ⟨b,off,none⟩) len cap] 25)).alloc (.cells #[.slice (some ⟨b0,o0,none⟩) 3 c0,.slice (some ⟨b1,o1,none⟩) 4 c1,.slice (some ⟨b2,o2,none⟩) 2 c2,.slice (some ⟨b3,o3,none⟩) 6 c3] 33)).alloc (.cells #[.slice none 0 0,.slice none 0 0,.slice none 0 0,.slice none 0 0] 33)):=by go_grown
 have pP:Blk (((w.alloc (.cells #[.slice (some ⟨b,off,none⟩) len cap] 25)).alloc (.cells #[.slice (some ⟨b0,o0,none⟩) 3 c0,.slice (some ⟨b1,o1,none⟩) 4 c1,.slice (some ⟨b2,o2,none⟩) 2 c2,.slice (some ⟨b3,o3,none⟩) 6 c3] 33)).alloc (.cells #[.slice none 0 0,.slice none 0 0,.slice none 0 0,.slice none 0 0] 33)) w.heap.size 25 [.slice (some ⟨b,off,none⟩) len cap]:=blkOld _ (blkOld _ (blkAt _ _ _ rfl))
 have pS:Blk (((w.alloc (.cells #[.slice (some ⟨b,off,none⟩) len cap] 25)).alloc (.cells #[.slice (some ⟨b0,o0,none⟩) 3 c0,.slice (some ⟨b1,o1,none⟩) 4 c1,.slice (some ⟨b2,o2,none⟩) 2 c2,.slice (some ⟨b3,o3,none⟩) 6 c3] 33)).alloc (.cells #[.slice none 0 0,.slice none 0 0,.slice none 0 0,.slice none 0 0] 33)) (w.heap.size+1) 33 [.slice (some ⟨b0,o0,none⟩) 3 c0,.slice (some ⟨b1,o1,none⟩) 4 c1,.slice (some ⟨b2,o2,none⟩) 2 c2,.slice (some ⟨b3,o3,none⟩) 6 c3]:=blkOld _ (blkAt _ _ _ (by simp))
 have pR:Blk (((w.alloc (.cells #[.slice (some ⟨b,off,none⟩) len cap] 25)).alloc (.cells #[.slice (some ⟨b0,o0,none⟩) 3 c0,.slice (some ⟨b1,o1,none⟩) 4 c1,.slice (some ⟨b2,o2,none⟩) 2 c2,.slice (some ⟨b3,o3,none⟩) 6 c3] 33)).alloc (.cells #[.slice none 0 0,.slice none 0 0,.slice none 0 0,.slice none 0 0] 33)) (w.heap.size+1+1) 33 [.slice none 0 0,.slice none 0 0,.slice none 0 0,.slice none 0 0]:=blkAt _ _ _ (by simp)
 replace e0:=cells_kept bw _ _ e0
 replace e1:=cells_kept bw _ _ e1
 replace q0:=cells_kept bw _ _ q0
 replace q1:=cells_kept bw _ _ q1
 replace q2:=cells_kept bw _ _ q2
 go_enter Tryz.func102,Tryz.ntmps102
 go_wp2_with fail
 generalize (((w.alloc (.cells #[.slice (some ⟨b,off,none⟩) len cap] 25)).alloc (.cells #[.slice (some ⟨b0,o0,none⟩) 3 c0,.slice (some ⟨b1,o1,none⟩) 4 c1,.slice (some ⟨b2,o2,none⟩) 2 c2,.slice (some ⟨b3,o3,none⟩) 6 c3] 33)).alloc (.cells #[.slice none 0 0,.slice none 0 0,.slice none 0 0,.slice none 0 0] 33))=W0 at *
 have d0:=pP.cell 0
 have d1:=pS.cell 0
 simp only [List.getElem?_cons_zero] at d0 d1
 refine wp_region_held_drew (S:=(fun w'=>w'.cell? ⟨w.heap.size,0,none⟩=some (.slice (some ⟨b,off,none⟩) len cap)∧w'.cell? ⟨w.heap.size+1,0,none⟩=some (.slice (some ⟨b0,o0,none⟩) 3 c0)∧w'.cell? ⟨b,off+k,none⟩=some (.slice (some ⟨cb,co,none⟩) cn cc)∧w'.cell? ⟨b0,o0+k,none⟩=some (.int .i64 p)∧w'.cell? ⟨cb,co+p*3,none⟩=some (.int .i64 7)∧w'.cell? ⟨cb,co+p*3+1,none⟩=some (.int .i64 a)∧w'.cell? ⟨cb,co+p*3+2,none⟩=some (.int .i64 z))) (by kernel_rfl) ⟨d0,d1,e0,e1,q0,q1,q2⟩ (fun hS0=>?_)
 refine tkm 0 10 (.pointer (some ⟨w.heap.size,0,none⟩)) ?_
 refine tkm 1 11 (.slice (some ⟨b,off,none⟩) len cap) ?_
 refine tkm 2 12 (.int .i64 k) ?_
 refine tkm 3 13 (.pointer (some ⟨b,off+k,none⟩)) ?_
 refine tkm 4 14 (.slice (some ⟨cb,co,none⟩) cn cc) ?_
 refine tkm 5 15 (.pointer (some ⟨w.heap.size+1,0,none⟩)) ?_
 refine tkm 6 16 (.slice (some ⟨b0,o0,none⟩) 3 c0) ?_
 refine tkm 7 17 (.int .i64 k) ?_
 refine tkm 8 18 (.pointer (some ⟨b0,o0+k,none⟩)) ?_
 refine tkm 9 19 (.int .i64 p) ?_
 refine tkm 10 20 (.pointer (some ⟨cb,co+p*3,none⟩)) ?_
 refine tkm 11 21 (.agg #[.int .i64 7,.int .i64 a,.int .i64 z]) ?_
 refine tkr 12 8 (fun K hK=>?_)
 have hal:Below W0.drew.heap.size W0.drew (W0.drew.alloc (.cells #[.int .i64 0,.int .i64 0,.int .i64 0] 144)):=by go_grown
 go_simp
 refine hK.out _ _ ?_ (fun hS1=>?_)
 ·exact ⟨cells_kept hal _ _ hS0.1,cells_kept hal _ _ hS0.2.1,cells_kept hal _ _ hS0.2.2.1,cells_kept hal _ _ hS0.2.2.2.1,cells_kept hal _ _ hS0.2.2.2.2.1,cells_kept hal _ _ hS0.2.2.2.2.2.1,cells_kept hal _ _ hS0.2.2.2.2.2.2⟩
 clear hK
 try simp only [Act.put,tka,tkb,tkc]
 refine tkz 13 (fun K hK=>?_)
 have hal2:Below W0.drew.heap.size W0.drew (W0.drew.alloc (.cells #[.int .i64 7,.int .i64 a,.int .i64 z] 144)):=by go_grown
 go_simp
 refine hK.out _ _ ?_ (fun hS2=>?_)
 ·exact ⟨cells_kept hal2 _ _ hS0.1,cells_kept hal2 _ _ hS0.2.1,cells_kept hal2 _ _ hS0.2.2.1,cells_kept hal2 _ _ hS0.2.2.2.1,cells_kept hal2 _ _ hS0.2.2.2.2.1,cells_kept hal2 _ _ hS0.2.2.2.2.2.1,cells_kept hal2 _ _ hS0.2.2.2.2.2.2⟩
 clear hK
 try simp only [Act.put,tka,tkb,tkc]
 refine wpAnyH_done (by kernel_rfl) ?_ _
 clear hal hal2 hS0 hS1 hS2 e0 e1 q0 q1 q2 d0 d1
 have bx:Below W0.heap.size W0 (W0.alloc (.cells #[.int .i64 7,.int .i64 a,.int .i64 z] 144)).drew:=by go_grown
 have pX:Blk (W0.alloc (.cells #[.int .i64 7,.int .i64 a,.int .i64 z] 144)).drew W0.heap.size 144 [.int .i64 7,.int .i64 a,.int .i64 z]:=Blk.new W0 144 [.int .i64 7,.int .i64 a,.int .i64 z]
 have hgX:=pR.lt
 replace bw:=bel_trans bw bx
 replace pS:=pS.below bx
 replace pR:=pR.below bx
 clear bx pP
 generalize (W0.alloc (.cells #[.int .i64 7,.int .i64 a,.int .i64 z] 144)).drew=W1 at *
 generalize W0.heap.size=gX at *
 have kO1:=kO W1 bw
 clear kO
 go_wp2_with (refine wpList_load_blk rfl 33 _ rfl (w.heap.size+1) rfl pS _ Tryz.underlying33 rfl (by kernel_rfl) ?_)
 refine kO1.mono ?_
 rintro e w2 ⟨⟨t,rfl,hO⟩,hb⟩
 clear kO1
 obtain ⟨g0,g1,g2,g3,k0,k1,k2,k3,rfl⟩:=ownV_open hO hL
 have uX:S4.val ((some ⟨g0,0,none⟩,3,k0),(some ⟨g1,0,none⟩,4,k1),(some ⟨g2,0,none⟩,2,k2),(some ⟨g3,0,none⟩,6,k3))=.agg #[.slice (some ⟨g0,0,none⟩) 3 k0,.slice (some ⟨g1,0,none⟩) 4 k1,.slice (some ⟨g2,0,none⟩) 2 k2,.slice (some ⟨g3,0,none⟩) 6 k3]:=rfl
 rw [uX]
 clear uX
 replace hO:=hO.lower9 bw.size
 replace bw:=bel_trans bw hb
 replace pS:=pS.below hb
 replace pR:=pR.below hb
 replace pX:=pX.below hb
 clear hb
 go_wp2_with (refine wpList_store_blk rfl 33 _ _ rfl (w.heap.size+1) [.slice (some ⟨g0,0,none⟩) 3 k0,.slice (some ⟨g1,0,none⟩) 4 k1,.slice (some ⟨g2,0,none⟩) 2 k2,.slice (some ⟨g3,0,none⟩) 6 k3] rfl rfl pS (by kernel_rfl) rfl rfl ?_)
 intro w3 pS3 gr
 replace bw:=bw.grown gr bw.size (fun x hx=>by cases hx;omega)
 replace hO:=hO.kept9 gr pS (by decide)
 replace pR:=pR.kept gr (by simp)
 replace pX:=pX.kept gr (by simp;omega)
 clear gr pS
 have pS:=pS3.out
 clear pS3
 have neS0:=hO.1.1.ne9 pS (by decide)
 have neR0:=hO.1.1.ne9 pR (by decide)
 have neX0:=hO.1.1.ne9 pX (by decide)
 have neS1:=hO.1.2.1.ne9 pS (by decide)
 have neR1:=hO.1.2.1.ne9 pR (by decide)
 have neS2:=hO.1.2.2.1.ne9 pS (by decide)
 have neR2:=hO.1.2.2.1.ne9 pR (by decide)
 have neS3:=hO.1.2.2.2.ne9 pS (by decide)
 have neR3:=hO.1.2.2.2.ne9 pR (by decide)
 have lo0:=hO.1.1.lo9.1
 have s0:w3.cell? ⟨w.heap.size+1,0,none⟩=some (.slice (some ⟨g0,0,none⟩) 3 k0):=by simpa using pS.cell 0
 have y0:w3.cell? ⟨g0,k,none⟩=some (.int .i64 (p:Int)):=(hO.1.1.at9 hk).trans (congrArg (fun z=>some (Value.int .i64 z)) hpc)
 have fz0:=hO.1.1.frz9 k
 have hO3:=hO.set0 k ((p:Int)+1)
 have pS3:=pS.away9 (j:=k) (.int .i64 ((p:Int)+1)) neS0
 have pR3:=pR.away9 (j:=k) (.int .i64 ((p:Int)+1)) neR0
 have pX3:=pX.away9 (j:=k) (.int .i64 ((p:Int)+1)) neX0
 have b3:=bw.setCell (p:=⟨g0,k,none⟩) lo0 (.int .i64 ((p:Int)+1))
 have hpw:IntKind.i64.wrap ((p:Int)+1)=(p:Int)+1:=IntWalk.i64_in _ (by omega)
 have hkw:IntKind.i64.wrap ((k:Int)*2)=(k:Int)*2:=IntWalk.i64_in _ (by omega)
 clear hO pS pR pX bw neS0 neR0 neX0
 have v0:=pS3.cell 0
 have v1:=pS3.cell 1
 have v2:=pS3.cell 2
 have v3:=pS3.cell 3
 have u0:=pX3.cell 0
 have u1:=pX3.cell 1
 have u2:=pX3.cell 2
 simp only [List.getElem?_cons_zero,List.getElem?_cons_succ] at v0 v1 v2 v3 u0 u1 u2
 have hr6':(r:Int)<6:=by omega
 have hrw:IntKind.i64.wrap ((r:Int))=(r:Int):=IntWalk.i64_in _ (by omega)
 have r1:(w3.setCell ⟨g0,k,none⟩ (.int .i64 ((p:Int)+1))).cell? ⟨g3,r,none⟩=some (.int .i64 0):=(hO3.1.2.2.2.at9 hr6).trans (congrArg (fun z=>some (Value.int .i64 z)) hvv)
 have hO4:=hO3
 have pS4:=pS3
 have pR4:=pR3
 have b4:=b3
 clear hvv hO3 pS3 pR3 b3 pX3
 go_wp2_with (first | refine wpList_load_blk rfl 33 _ rfl (w.heap.size+1) rfl pS4 _ Tryz.underlying33 rfl (by kernel_rfl) ?_ | refine wpList_store_blk rfl 33 _ _ rfl (w.heap.size+1+1) [.slice (some ⟨g0,0,none⟩) 3 k0,.slice (some ⟨g1,0,none⟩) 4 k1,.slice (some ⟨g2,0,none⟩) 2 k2,.slice (some ⟨g3,0,none⟩) 6 k3] rfl rfl pR4 (by kernel_rfl) rfl rfl ?_)
 intro w9 pR9 gr9
 replace b4:=b4.grown gr9 b4.size (fun x hx=>by cases hx;omega)
 replace hO4:=hO4.kept9 gr9 pR4 (by decide)
 clear gr9 pR4 pS4
 go_wp2_with fail
 refine bodyPost_ret (results_blk2 Tryz.results102 _ _ _ _ _ _ rfl pR9.out Tryz.underlying33 rfl (by kernel_rfl)) rfl ?_
 exact ⟨VmGot.mk9 ((some ⟨g0,0,none⟩,3,k0),(some ⟨g1,0,none⟩,4,k1),(some ⟨g2,0,none⟩,2,k2),(some ⟨g3,0,none⟩,6,k3)) rfl hO4,b4⟩

theorem lstep_jump (b off len cap b0 o0 c0 b1 o1 c1 b2 o2 c2 b3 o3 c3 k cb co cn cc p:Nat) (a r:Nat) (z vv:Int) (m:V4) (w:World) (hk:k<3) (hlen:len=3) (hp:p<cn) (hp6:p≤6) (hs:shapeOk m=true) (hMm:Vmem w ((some ⟨b0,o0,none⟩,3,c0),(some ⟨b1,o1,none⟩,4,c1),(some ⟨b2,o2,none⟩,2,c2),(some ⟨b3,o3,none⟩,6,c3)) m) (hpc:m.1.getD k 0=p)
  (e0:w.cell? ⟨b,off+k,none⟩=some (.slice (some ⟨cb,co,none⟩) cn cc)) (e1:w.cell? ⟨b0,o0+k,none⟩=some (.int .i64 p)) (q0:w.cell? ⟨cb,co+p*3,none⟩=some (.int .i64 7)) (q1:w.cell? ⟨cb,co+p*3+1,none⟩=some (.int .i64 a)) (q2:w.cell? ⟨cb,co+p*3+2,none⟩=some (.int .i64 z)) (hr6:r<6) (hri:(k:Int)*2+(a:Int)=(r:Int)) (hvv:m.2.2.2.getD r 0=vv) (hv0:vv≠0) :
  Calls Tryz.prog 102 #[.agg #[.slice (some ⟨b,off,none⟩) len cap],.agg #[.slice (some ⟨b0,o0,none⟩) 3 c0,.slice (some ⟨b1,o1,none⟩) 4 c1,.slice (some ⟨b2,o2,none⟩) 2 c2,.slice (some ⟨b3,o3,none⟩) 6 c3],.int .i64 k] w fun e w'=>VmGot e w' w.heap.size (m.1.set k z,m.2) 0∧Below w.heap.size w w':=by
 have hL:=LenOk.of hs
 have kO:=fun (W:World) (hb:Below w.heap.size w W)=>l03Own_is ((some ⟨b0,o0,none⟩,3,c0),(some ⟨b1,o1,none⟩,4,c1),(some ⟨b2,o2,none⟩,2,c2),(some ⟨b3,o3,none⟩,6,c3)) m W (hMm.below hb) hs
 have uA:S4.val ((some ⟨b0,o0,none⟩,3,c0),(some ⟨b1,o1,none⟩,4,c1),(some ⟨b2,o2,none⟩,2,c2),(some ⟨b3,o3,none⟩,6,c3))=.agg #[.slice (some ⟨b0,o0,none⟩) 3 c0,.slice (some ⟨b1,o1,none⟩) 4 c1,.slice (some ⟨b2,o2,none⟩) 2 c2,.slice (some ⟨b3,o3,none⟩) 6 c3]:=rfl
 rw [uA] at kO
 clear uA
 have hk3:(k:Int)<3:=by omega
 have hkl:(k:Int)<(len:Int):=by omega
 have hpn:(p:Int)<(cn:Int):=by omega
 clear hlen
 have bw:Below w.heap.size w (((w.alloc (.cells #[.slice (some ⟨b,off,none⟩) len cap] 25)).alloc (.cells #[.slice (some ⟨b0,o0,none⟩) 3 c0,.slice (some ⟨b1,o1,none⟩) 4 c1,.slice (some ⟨b2,o2,none⟩) 2 c2,.slice (some ⟨b3,o3,none⟩) 6 c3] 33)).alloc (.cells #[.slice none 0 0,.slice none 0 0,.slice none 0 0,.slice none 0 0] 33)):=by go_grown
 have pP:Blk (((w.alloc (.cells #[.slice (some ⟨b,off,none⟩) len cap] 25)).alloc (.cells #[.slice (some ⟨b0,o0,none⟩) 3 c0,.slice (some ⟨b1,o1,none⟩) 4 c1,.slice (some ⟨b2,o2,none⟩) 2 c2,.slice (some ⟨b3,o3,none⟩) 6 c3] 33)).alloc (.cells #[.slice none 0 0,.slice none 0 0,.slice none 0 0,.slice none 0 0] 33)) w.heap.size 25 [.slice (some ⟨b,off,none⟩) len cap]:=blkOld _ (blkOld _ (blkAt _ _ _ rfl))
 have pS:Blk (((w.alloc (.cells #[.slice (some ⟨b,off,none⟩) len cap] 25)).alloc (.cells #[.slice (some ⟨b0,o0,none⟩) 3 c0,.slice (some ⟨b1,o1,none⟩) 4 c1,.slice (some ⟨b2,o2,none⟩) 2 c2,.slice (some ⟨b3,o3,none⟩) 6 c3] 33)).alloc (.cells #[.slice none 0 0,.slice none 0 0,.slice none 0 0,.slice none 0 0] 33)) (w.heap.size+1) 33 [.slice (some ⟨b0,o0,none⟩) 3 c0,.slice (some ⟨b1,o1,none⟩) 4 c1,.slice (some ⟨b2,o2,none⟩) 2 c2,.slice (some ⟨b3,o3,none⟩) 6 c3]:=blkOld _ (blkAt _ _ _ (by simp))
 have pR:Blk (((w.alloc (.cells #[.slice (some ⟨b,off,none⟩) len cap] 25)).alloc (.cells #[.slice (some ⟨b0,o0,none⟩) 3 c0,.slice (some ⟨b1,o1,none⟩) 4 c1,.slice (some ⟨b2,o2,none⟩) 2 c2,.slice (some ⟨b3,o3,none⟩) 6 c3] 33)).alloc (.cells #[.slice none 0 0,.slice none 0 0,.slice none 0 0,.slice none 0 0] 33)) (w.heap.size+1+1) 33 [.slice none 0 0,.slice none 0 0,.slice none 0 0,.slice none 0 0]:=blkAt _ _ _ (by simp)
 replace e0:=cells_kept bw _ _ e0
 replace e1:=cells_kept bw _ _ e1
 replace q0:=cells_kept bw _ _ q0
 replace q1:=cells_kept bw _ _ q1
 replace q2:=cells_kept bw _ _ q2
 go_enter Tryz.func102,Tryz.ntmps102
 go_wp2_with fail
 generalize (((w.alloc (.cells #[.slice (some ⟨b,off,none⟩) len cap] 25)).alloc (.cells #[.slice (some ⟨b0,o0,none⟩) 3 c0,.slice (some ⟨b1,o1,none⟩) 4 c1,.slice (some ⟨b2,o2,none⟩) 2 c2,.slice (some ⟨b3,o3,none⟩) 6 c3] 33)).alloc (.cells #[.slice none 0 0,.slice none 0 0,.slice none 0 0,.slice none 0 0] 33))=W0 at *
 have d0:=pP.cell 0
 have d1:=pS.cell 0
 simp only [List.getElem?_cons_zero] at d0 d1
 refine wp_region_held_drew (S:=(fun w'=>w'.cell? ⟨w.heap.size,0,none⟩=some (.slice (some ⟨b,off,none⟩) len cap)∧w'.cell? ⟨w.heap.size+1,0,none⟩=some (.slice (some ⟨b0,o0,none⟩) 3 c0)∧w'.cell? ⟨b,off+k,none⟩=some (.slice (some ⟨cb,co,none⟩) cn cc)∧w'.cell? ⟨b0,o0+k,none⟩=some (.int .i64 p)∧w'.cell? ⟨cb,co+p*3,none⟩=some (.int .i64 7)∧w'.cell? ⟨cb,co+p*3+1,none⟩=some (.int .i64 a)∧w'.cell? ⟨cb,co+p*3+2,none⟩=some (.int .i64 z))) (by kernel_rfl) ⟨d0,d1,e0,e1,q0,q1,q2⟩ (fun hS0=>?_)
 refine tkm 0 10 (.pointer (some ⟨w.heap.size,0,none⟩)) ?_
 refine tkm 1 11 (.slice (some ⟨b,off,none⟩) len cap) ?_
 refine tkm 2 12 (.int .i64 k) ?_
 refine tkm 3 13 (.pointer (some ⟨b,off+k,none⟩)) ?_
 refine tkm 4 14 (.slice (some ⟨cb,co,none⟩) cn cc) ?_
 refine tkm 5 15 (.pointer (some ⟨w.heap.size+1,0,none⟩)) ?_
 refine tkm 6 16 (.slice (some ⟨b0,o0,none⟩) 3 c0) ?_
 refine tkm 7 17 (.int .i64 k) ?_
 refine tkm 8 18 (.pointer (some ⟨b0,o0+k,none⟩)) ?_
 refine tkm 9 19 (.int .i64 p) ?_
 refine tkm 10 20 (.pointer (some ⟨cb,co+p*3,none⟩)) ?_
 refine tkm 11 21 (.agg #[.int .i64 7,.int .i64 a,.int .i64 z]) ?_
 refine tkr 12 8 (fun K hK=>?_)
 have hal:Below W0.drew.heap.size W0.drew (W0.drew.alloc (.cells #[.int .i64 0,.int .i64 0,.int .i64 0] 144)):=by go_grown
 go_simp
 refine hK.out _ _ ?_ (fun hS1=>?_)
 ·exact ⟨cells_kept hal _ _ hS0.1,cells_kept hal _ _ hS0.2.1,cells_kept hal _ _ hS0.2.2.1,cells_kept hal _ _ hS0.2.2.2.1,cells_kept hal _ _ hS0.2.2.2.2.1,cells_kept hal _ _ hS0.2.2.2.2.2.1,cells_kept hal _ _ hS0.2.2.2.2.2.2⟩
 clear hK
 try simp only [Act.put,tka,tkb,tkc]
 refine tkz 13 (fun K hK=>?_)
 have hal2:Below W0.drew.heap.size W0.drew (W0.drew.alloc (.cells #[.int .i64 7,.int .i64 a,.int .i64 z] 144)):=by go_grown
 go_simp
 refine hK.out _ _ ?_ (fun hS2=>?_)
 ·exact ⟨cells_kept hal2 _ _ hS0.1,cells_kept hal2 _ _ hS0.2.1,cells_kept hal2 _ _ hS0.2.2.1,cells_kept hal2 _ _ hS0.2.2.2.1,cells_kept hal2 _ _ hS0.2.2.2.2.1,cells_kept hal2 _ _ hS0.2.2.2.2.2.1,cells_kept hal2 _ _ hS0.2.2.2.2.2.2⟩
 clear hK
 try simp only [Act.put,tka,tkb,tkc]
 refine wpAnyH_done (by kernel_rfl) ?_ _
 clear hal hal2 hS0 hS1 hS2 e0 e1 q0 q1 q2 d0 d1
 have bx:Below W0.heap.size W0 (W0.alloc (.cells #[.int .i64 7,.int .i64 a,.int .i64 z] 144)).drew:=by go_grown
 have pX:Blk (W0.alloc (.cells #[.int .i64 7,.int .i64 a,.int .i64 z] 144)).drew W0.heap.size 144 [.int .i64 7,.int .i64 a,.int .i64 z]:=Blk.new W0 144 [.int .i64 7,.int .i64 a,.int .i64 z]
 have hgX:=pR.lt
 replace bw:=bel_trans bw bx
 replace pS:=pS.below bx
 replace pR:=pR.below bx
 clear bx pP
 generalize (W0.alloc (.cells #[.int .i64 7,.int .i64 a,.int .i64 z] 144)).drew=W1 at *
 generalize W0.heap.size=gX at *
 have kO1:=kO W1 bw
 clear kO
 go_wp2_with (refine wpList_load_blk rfl 33 _ rfl (w.heap.size+1) rfl pS _ Tryz.underlying33 rfl (by kernel_rfl) ?_)
 refine kO1.mono ?_
 rintro e w2 ⟨⟨t,rfl,hO⟩,hb⟩
 clear kO1
 obtain ⟨g0,g1,g2,g3,k0,k1,k2,k3,rfl⟩:=ownV_open hO hL
 have uX:S4.val ((some ⟨g0,0,none⟩,3,k0),(some ⟨g1,0,none⟩,4,k1),(some ⟨g2,0,none⟩,2,k2),(some ⟨g3,0,none⟩,6,k3))=.agg #[.slice (some ⟨g0,0,none⟩) 3 k0,.slice (some ⟨g1,0,none⟩) 4 k1,.slice (some ⟨g2,0,none⟩) 2 k2,.slice (some ⟨g3,0,none⟩) 6 k3]:=rfl
 rw [uX]
 clear uX
 replace hO:=hO.lower9 bw.size
 replace bw:=bel_trans bw hb
 replace pS:=pS.below hb
 replace pR:=pR.below hb
 replace pX:=pX.below hb
 clear hb
 go_wp2_with (refine wpList_store_blk rfl 33 _ _ rfl (w.heap.size+1) [.slice (some ⟨g0,0,none⟩) 3 k0,.slice (some ⟨g1,0,none⟩) 4 k1,.slice (some ⟨g2,0,none⟩) 2 k2,.slice (some ⟨g3,0,none⟩) 6 k3] rfl rfl pS (by kernel_rfl) rfl rfl ?_)
 intro w3 pS3 gr
 replace bw:=bw.grown gr bw.size (fun x hx=>by cases hx;omega)
 replace hO:=hO.kept9 gr pS (by decide)
 replace pR:=pR.kept gr (by simp)
 replace pX:=pX.kept gr (by simp;omega)
 clear gr pS
 have pS:=pS3.out
 clear pS3
 have neS0:=hO.1.1.ne9 pS (by decide)
 have neR0:=hO.1.1.ne9 pR (by decide)
 have neX0:=hO.1.1.ne9 pX (by decide)
 have neS1:=hO.1.2.1.ne9 pS (by decide)
 have neR1:=hO.1.2.1.ne9 pR (by decide)
 have neS2:=hO.1.2.2.1.ne9 pS (by decide)
 have neR2:=hO.1.2.2.1.ne9 pR (by decide)
 have neS3:=hO.1.2.2.2.ne9 pS (by decide)
 have neR3:=hO.1.2.2.2.ne9 pR (by decide)
 have lo0:=hO.1.1.lo9.1
 have s0:w3.cell? ⟨w.heap.size+1,0,none⟩=some (.slice (some ⟨g0,0,none⟩) 3 k0):=by simpa using pS.cell 0
 have y0:w3.cell? ⟨g0,k,none⟩=some (.int .i64 (p:Int)):=(hO.1.1.at9 hk).trans (congrArg (fun z=>some (Value.int .i64 z)) hpc)
 have fz0:=hO.1.1.frz9 k
 have hO3:=hO.set0 k ((p:Int)+1)
 have pS3:=pS.away9 (j:=k) (.int .i64 ((p:Int)+1)) neS0
 have pR3:=pR.away9 (j:=k) (.int .i64 ((p:Int)+1)) neR0
 have pX3:=pX.away9 (j:=k) (.int .i64 ((p:Int)+1)) neX0
 have b3:=bw.setCell (p:=⟨g0,k,none⟩) lo0 (.int .i64 ((p:Int)+1))
 have hpw:IntKind.i64.wrap ((p:Int)+1)=(p:Int)+1:=IntWalk.i64_in _ (by omega)
 have hkw:IntKind.i64.wrap ((k:Int)*2)=(k:Int)*2:=IntWalk.i64_in _ (by omega)
 clear hO pS pR pX bw neS0 neR0 neX0
 have v0:=pS3.cell 0
 have v1:=pS3.cell 1
 have v2:=pS3.cell 2
 have v3:=pS3.cell 3
 have u0:=pX3.cell 0
 have u1:=pX3.cell 1
 have u2:=pX3.cell 2
 simp only [List.getElem?_cons_zero,List.getElem?_cons_succ] at v0 v1 v2 v3 u0 u1 u2
 have hr6':(r:Int)<6:=by omega
 have hrw:IntKind.i64.wrap ((r:Int))=(r:Int):=IntWalk.i64_in _ (by omega)
 have r1:(w3.setCell ⟨g0,k,none⟩ (.int .i64 ((p:Int)+1))).cell? ⟨g3,r,none⟩=some (.int .i64 vv):=(hO3.1.2.2.2.at9 hr6).trans (congrArg (fun z=>some (Value.int .i64 z)) hvv)
 have hn0:(vv != 0)=true:=by simp [hv0]
 have neS0:=hO3.1.1.ne9 pS3 (by decide)
 have neR0:=hO3.1.1.ne9 pR3 (by decide)
 obtain ⟨old,w0⟩:∃ u,(w3.setCell ⟨g0,k,none⟩ (.int .i64 ((p:Int)+1))).cell? ⟨g0,k,none⟩=some u:=⟨_,hO3.1.1.at9 hk⟩
 have wf:=hO3.1.1.frz9 k
 have lo4:=hO3.1.1.lo9.1
 have hO4:=hO3.set0 k z
 have pS4:=pS3.away9 (X:=g0) (j:=k) (.int .i64 z) neS0
 have pR4:=pR3.away9 (X:=g0) (j:=k) (.int .i64 z) neR0
 have b4:=b3.setCell (p:=⟨g0,k,none⟩) lo4 (.int .i64 z)
 simp only at hO4
 simp only [List.set_set] at hO4
 clear hvv hO3 pS3 pR3 b3 pX3
 go_wp2_with (first | refine wpList_load_blk rfl 33 _ rfl (w.heap.size+1) rfl pS4 _ Tryz.underlying33 rfl (by kernel_rfl) ?_ | refine wpList_store_blk rfl 33 _ _ rfl (w.heap.size+1+1) [.slice (some ⟨g0,0,none⟩) 3 k0,.slice (some ⟨g1,0,none⟩) 4 k1,.slice (some ⟨g2,0,none⟩) 2 k2,.slice (some ⟨g3,0,none⟩) 6 k3] rfl rfl pR4 (by kernel_rfl) rfl rfl ?_)
 intro w9 pR9 gr9
 replace b4:=b4.grown gr9 b4.size (fun x hx=>by cases hx;omega)
 replace hO4:=hO4.kept9 gr9 pR4 (by decide)
 clear gr9 pR4 pS4
 go_wp2_with fail
 refine bodyPost_ret (results_blk2 Tryz.results102 _ _ _ _ _ _ rfl pR9.out Tryz.underlying33 rfl (by kernel_rfl)) rfl ?_
 exact ⟨VmGot.mk9 ((some ⟨g0,0,none⟩,3,k0),(some ⟨g1,0,none⟩,4,k1),(some ⟨g2,0,none⟩,2,k2),(some ⟨g3,0,none⟩,6,k3)) rfl hO4,b4⟩

theorem lstep_assert_yes (b off len cap b0 o0 c0 b1 o1 c1 b2 o2 c2 b3 o3 c3 k cb co cn cc p:Nat) (a r:Nat) (z:Int) (m:V4) (w:World) (hk:k<3) (hlen:len=3) (hp:p<cn) (hp6:p≤6) (hs:shapeOk m=true) (hMm:Vmem w ((some ⟨b0,o0,none⟩,3,c0),(some ⟨b1,o1,none⟩,4,c1),(some ⟨b2,o2,none⟩,2,c2),(some ⟨b3,o3,none⟩,6,c3)) m) (hpc:m.1.getD k 0=p)
  (e0:w.cell? ⟨b,off+k,none⟩=some (.slice (some ⟨cb,co,none⟩) cn cc)) (e1:w.cell? ⟨b0,o0+k,none⟩=some (.int .i64 p)) (q0:w.cell? ⟨cb,co+p*3,none⟩=some (.int .i64 8)) (q1:w.cell? ⟨cb,co+p*3+1,none⟩=some (.int .i64 a)) (q2:w.cell? ⟨cb,co+p*3+2,none⟩=some (.int .i64 z)) (hr6:r<6) (hri:(k:Int)*2+(a:Int)=(r:Int)) (hvv:m.2.2.2.getD r 0=z) :
  Calls Tryz.prog 102 #[.agg #[.slice (some ⟨b,off,none⟩) len cap],.agg #[.slice (some ⟨b0,o0,none⟩) 3 c0,.slice (some ⟨b1,o1,none⟩) 4 c1,.slice (some ⟨b2,o2,none⟩) 2 c2,.slice (some ⟨b3,o3,none⟩) 6 c3],.int .i64 k] w fun e w'=>VmGot e w' w.heap.size (m.1.set k ((p:Int)+1),m.2) 0∧Below w.heap.size w w':=by
 have hL:=LenOk.of hs
 have kO:=fun (W:World) (hb:Below w.heap.size w W)=>l03Own_is ((some ⟨b0,o0,none⟩,3,c0),(some ⟨b1,o1,none⟩,4,c1),(some ⟨b2,o2,none⟩,2,c2),(some ⟨b3,o3,none⟩,6,c3)) m W (hMm.below hb) hs
 have uA:S4.val ((some ⟨b0,o0,none⟩,3,c0),(some ⟨b1,o1,none⟩,4,c1),(some ⟨b2,o2,none⟩,2,c2),(some ⟨b3,o3,none⟩,6,c3))=.agg #[.slice (some ⟨b0,o0,none⟩) 3 c0,.slice (some ⟨b1,o1,none⟩) 4 c1,.slice (some ⟨b2,o2,none⟩) 2 c2,.slice (some ⟨b3,o3,none⟩) 6 c3]:=rfl
 rw [uA] at kO
 clear uA
 have hk3:(k:Int)<3:=by omega
 have hkl:(k:Int)<(len:Int):=by omega
 have hpn:(p:Int)<(cn:Int):=by omega
 clear hlen
 have bw:Below w.heap.size w (((w.alloc (.cells #[.slice (some ⟨b,off,none⟩) len cap] 25)).alloc (.cells #[.slice (some ⟨b0,o0,none⟩) 3 c0,.slice (some ⟨b1,o1,none⟩) 4 c1,.slice (some ⟨b2,o2,none⟩) 2 c2,.slice (some ⟨b3,o3,none⟩) 6 c3] 33)).alloc (.cells #[.slice none 0 0,.slice none 0 0,.slice none 0 0,.slice none 0 0] 33)):=by go_grown
 have pP:Blk (((w.alloc (.cells #[.slice (some ⟨b,off,none⟩) len cap] 25)).alloc (.cells #[.slice (some ⟨b0,o0,none⟩) 3 c0,.slice (some ⟨b1,o1,none⟩) 4 c1,.slice (some ⟨b2,o2,none⟩) 2 c2,.slice (some ⟨b3,o3,none⟩) 6 c3] 33)).alloc (.cells #[.slice none 0 0,.slice none 0 0,.slice none 0 0,.slice none 0 0] 33)) w.heap.size 25 [.slice (some ⟨b,off,none⟩) len cap]:=blkOld _ (blkOld _ (blkAt _ _ _ rfl))
 have pS:Blk (((w.alloc (.cells #[.slice (some ⟨b,off,none⟩) len cap] 25)).alloc (.cells #[.slice (some ⟨b0,o0,none⟩) 3 c0,.slice (some ⟨b1,o1,none⟩) 4 c1,.slice (some ⟨b2,o2,none⟩) 2 c2,.slice (some ⟨b3,o3,none⟩) 6 c3] 33)).alloc (.cells #[.slice none 0 0,.slice none 0 0,.slice none 0 0,.slice none 0 0] 33)) (w.heap.size+1) 33 [.slice (some ⟨b0,o0,none⟩) 3 c0,.slice (some ⟨b1,o1,none⟩) 4 c1,.slice (some ⟨b2,o2,none⟩) 2 c2,.slice (some ⟨b3,o3,none⟩) 6 c3]:=blkOld _ (blkAt _ _ _ (by simp))
 have pR:Blk (((w.alloc (.cells #[.slice (some ⟨b,off,none⟩) len cap] 25)).alloc (.cells #[.slice (some ⟨b0,o0,none⟩) 3 c0,.slice (some ⟨b1,o1,none⟩) 4 c1,.slice (some ⟨b2,o2,none⟩) 2 c2,.slice (some ⟨b3,o3,none⟩) 6 c3] 33)).alloc (.cells #[.slice none 0 0,.slice none 0 0,.slice none 0 0,.slice none 0 0] 33)) (w.heap.size+1+1) 33 [.slice none 0 0,.slice none 0 0,.slice none 0 0,.slice none 0 0]:=blkAt _ _ _ (by simp)
 replace e0:=cells_kept bw _ _ e0
 replace e1:=cells_kept bw _ _ e1
 replace q0:=cells_kept bw _ _ q0
 replace q1:=cells_kept bw _ _ q1
 replace q2:=cells_kept bw _ _ q2
 go_enter Tryz.func102,Tryz.ntmps102
 go_wp2_with fail
 generalize (((w.alloc (.cells #[.slice (some ⟨b,off,none⟩) len cap] 25)).alloc (.cells #[.slice (some ⟨b0,o0,none⟩) 3 c0,.slice (some ⟨b1,o1,none⟩) 4 c1,.slice (some ⟨b2,o2,none⟩) 2 c2,.slice (some ⟨b3,o3,none⟩) 6 c3] 33)).alloc (.cells #[.slice none 0 0,.slice none 0 0,.slice none 0 0,.slice none 0 0] 33))=W0 at *
 have d0:=pP.cell 0
 have d1:=pS.cell 0
 simp only [List.getElem?_cons_zero] at d0 d1
 refine wp_region_held_drew (S:=(fun w'=>w'.cell? ⟨w.heap.size,0,none⟩=some (.slice (some ⟨b,off,none⟩) len cap)∧w'.cell? ⟨w.heap.size+1,0,none⟩=some (.slice (some ⟨b0,o0,none⟩) 3 c0)∧w'.cell? ⟨b,off+k,none⟩=some (.slice (some ⟨cb,co,none⟩) cn cc)∧w'.cell? ⟨b0,o0+k,none⟩=some (.int .i64 p)∧w'.cell? ⟨cb,co+p*3,none⟩=some (.int .i64 8)∧w'.cell? ⟨cb,co+p*3+1,none⟩=some (.int .i64 a)∧w'.cell? ⟨cb,co+p*3+2,none⟩=some (.int .i64 z))) (by kernel_rfl) ⟨d0,d1,e0,e1,q0,q1,q2⟩ (fun hS0=>?_)
 refine tkm 0 10 (.pointer (some ⟨w.heap.size,0,none⟩)) ?_
 refine tkm 1 11 (.slice (some ⟨b,off,none⟩) len cap) ?_
 refine tkm 2 12 (.int .i64 k) ?_
 refine tkm 3 13 (.pointer (some ⟨b,off+k,none⟩)) ?_
 refine tkm 4 14 (.slice (some ⟨cb,co,none⟩) cn cc) ?_
 refine tkm 5 15 (.pointer (some ⟨w.heap.size+1,0,none⟩)) ?_
 refine tkm 6 16 (.slice (some ⟨b0,o0,none⟩) 3 c0) ?_
 refine tkm 7 17 (.int .i64 k) ?_
 refine tkm 8 18 (.pointer (some ⟨b0,o0+k,none⟩)) ?_
 refine tkm 9 19 (.int .i64 p) ?_
 refine tkm 10 20 (.pointer (some ⟨cb,co+p*3,none⟩)) ?_
 refine tkm 11 21 (.agg #[.int .i64 8,.int .i64 a,.int .i64 z]) ?_
 refine tkr 12 8 (fun K hK=>?_)
 have hal:Below W0.drew.heap.size W0.drew (W0.drew.alloc (.cells #[.int .i64 0,.int .i64 0,.int .i64 0] 144)):=by go_grown
 go_simp
 refine hK.out _ _ ?_ (fun hS1=>?_)
 ·exact ⟨cells_kept hal _ _ hS0.1,cells_kept hal _ _ hS0.2.1,cells_kept hal _ _ hS0.2.2.1,cells_kept hal _ _ hS0.2.2.2.1,cells_kept hal _ _ hS0.2.2.2.2.1,cells_kept hal _ _ hS0.2.2.2.2.2.1,cells_kept hal _ _ hS0.2.2.2.2.2.2⟩
 clear hK
 try simp only [Act.put,tka,tkb,tkc]
 refine tkz 13 (fun K hK=>?_)
 have hal2:Below W0.drew.heap.size W0.drew (W0.drew.alloc (.cells #[.int .i64 8,.int .i64 a,.int .i64 z] 144)):=by go_grown
 go_simp
 refine hK.out _ _ ?_ (fun hS2=>?_)
 ·exact ⟨cells_kept hal2 _ _ hS0.1,cells_kept hal2 _ _ hS0.2.1,cells_kept hal2 _ _ hS0.2.2.1,cells_kept hal2 _ _ hS0.2.2.2.1,cells_kept hal2 _ _ hS0.2.2.2.2.1,cells_kept hal2 _ _ hS0.2.2.2.2.2.1,cells_kept hal2 _ _ hS0.2.2.2.2.2.2⟩
 clear hK
 try simp only [Act.put,tka,tkb,tkc]
 refine wpAnyH_done (by kernel_rfl) ?_ _
 clear hal hal2 hS0 hS1 hS2 e0 e1 q0 q1 q2 d0 d1
 have bx:Below W0.heap.size W0 (W0.alloc (.cells #[.int .i64 8,.int .i64 a,.int .i64 z] 144)).drew:=by go_grown
 have pX:Blk (W0.alloc (.cells #[.int .i64 8,.int .i64 a,.int .i64 z] 144)).drew W0.heap.size 144 [.int .i64 8,.int .i64 a,.int .i64 z]:=Blk.new W0 144 [.int .i64 8,.int .i64 a,.int .i64 z]
 have hgX:=pR.lt
 replace bw:=bel_trans bw bx
 replace pS:=pS.below bx
 replace pR:=pR.below bx
 clear bx pP
 generalize (W0.alloc (.cells #[.int .i64 8,.int .i64 a,.int .i64 z] 144)).drew=W1 at *
 generalize W0.heap.size=gX at *
 have kO1:=kO W1 bw
 clear kO
 go_wp2_with (refine wpList_load_blk rfl 33 _ rfl (w.heap.size+1) rfl pS _ Tryz.underlying33 rfl (by kernel_rfl) ?_)
 refine kO1.mono ?_
 rintro e w2 ⟨⟨t,rfl,hO⟩,hb⟩
 clear kO1
 obtain ⟨g0,g1,g2,g3,k0,k1,k2,k3,rfl⟩:=ownV_open hO hL
 have uX:S4.val ((some ⟨g0,0,none⟩,3,k0),(some ⟨g1,0,none⟩,4,k1),(some ⟨g2,0,none⟩,2,k2),(some ⟨g3,0,none⟩,6,k3))=.agg #[.slice (some ⟨g0,0,none⟩) 3 k0,.slice (some ⟨g1,0,none⟩) 4 k1,.slice (some ⟨g2,0,none⟩) 2 k2,.slice (some ⟨g3,0,none⟩) 6 k3]:=rfl
 rw [uX]
 clear uX
 replace hO:=hO.lower9 bw.size
 replace bw:=bel_trans bw hb
 replace pS:=pS.below hb
 replace pR:=pR.below hb
 replace pX:=pX.below hb
 clear hb
 go_wp2_with (refine wpList_store_blk rfl 33 _ _ rfl (w.heap.size+1) [.slice (some ⟨g0,0,none⟩) 3 k0,.slice (some ⟨g1,0,none⟩) 4 k1,.slice (some ⟨g2,0,none⟩) 2 k2,.slice (some ⟨g3,0,none⟩) 6 k3] rfl rfl pS (by kernel_rfl) rfl rfl ?_)
 intro w3 pS3 gr
 replace bw:=bw.grown gr bw.size (fun x hx=>by cases hx;omega)
 replace hO:=hO.kept9 gr pS (by decide)
 replace pR:=pR.kept gr (by simp)
 replace pX:=pX.kept gr (by simp;omega)
 clear gr pS
 have pS:=pS3.out
 clear pS3
 have neS0:=hO.1.1.ne9 pS (by decide)
 have neR0:=hO.1.1.ne9 pR (by decide)
 have neX0:=hO.1.1.ne9 pX (by decide)
 have neS1:=hO.1.2.1.ne9 pS (by decide)
 have neR1:=hO.1.2.1.ne9 pR (by decide)
 have neS2:=hO.1.2.2.1.ne9 pS (by decide)
 have neR2:=hO.1.2.2.1.ne9 pR (by decide)
 have neS3:=hO.1.2.2.2.ne9 pS (by decide)
 have neR3:=hO.1.2.2.2.ne9 pR (by decide)
 have lo0:=hO.1.1.lo9.1
 have s0:w3.cell? ⟨w.heap.size+1,0,none⟩=some (.slice (some ⟨g0,0,none⟩) 3 k0):=by simpa using pS.cell 0
 have y0:w3.cell? ⟨g0,k,none⟩=some (.int .i64 (p:Int)):=(hO.1.1.at9 hk).trans (congrArg (fun z=>some (Value.int .i64 z)) hpc)
 have fz0:=hO.1.1.frz9 k
 have hO3:=hO.set0 k ((p:Int)+1)
 have pS3:=pS.away9 (j:=k) (.int .i64 ((p:Int)+1)) neS0
 have pR3:=pR.away9 (j:=k) (.int .i64 ((p:Int)+1)) neR0
 have pX3:=pX.away9 (j:=k) (.int .i64 ((p:Int)+1)) neX0
 have b3:=bw.setCell (p:=⟨g0,k,none⟩) lo0 (.int .i64 ((p:Int)+1))
 have hpw:IntKind.i64.wrap ((p:Int)+1)=(p:Int)+1:=IntWalk.i64_in _ (by omega)
 have hkw:IntKind.i64.wrap ((k:Int)*2)=(k:Int)*2:=IntWalk.i64_in _ (by omega)
 clear hO pS pR pX bw neS0 neR0 neX0
 have v0:=pS3.cell 0
 have v1:=pS3.cell 1
 have v2:=pS3.cell 2
 have v3:=pS3.cell 3
 have u0:=pX3.cell 0
 have u1:=pX3.cell 1
 have u2:=pX3.cell 2
 simp only [List.getElem?_cons_zero,List.getElem?_cons_succ] at v0 v1 v2 v3 u0 u1 u2
 have hr6':(r:Int)<6:=by omega
 have hrw:IntKind.i64.wrap ((r:Int))=(r:Int):=IntWalk.i64_in _ (by omega)
 have r1:(w3.setCell ⟨g0,k,none⟩ (.int .i64 ((p:Int)+1))).cell? ⟨g3,r,none⟩=some (.int .i64 z):=(hO3.1.2.2.2.at9 hr6).trans (congrArg (fun z=>some (Value.int .i64 z)) hvv)
 have hn0:(z != z)=false:=by simp
 clear hvv pX3
 go_wp2_with fail
 generalize (w3.setCell ⟨g0,k,none⟩ (.int .i64 ((p:Int)+1)))=W3 at *
 go_quiet (fail)
 have hO4:OwnV (W3.drewN nq) w.heap.size ((some ⟨g0,0,none⟩,3,k0),(some ⟨g1,0,none⟩,4,k1),(some ⟨g2,0,none⟩,2,k2),(some ⟨g3,0,none⟩,6,k3)) _:=hO3
 have pS4:Blk (W3.drewN nq) (w.heap.size+1) 33 [.slice (some ⟨g0,0,none⟩) 3 k0,.slice (some ⟨g1,0,none⟩) 4 k1,.slice (some ⟨g2,0,none⟩) 2 k2,.slice (some ⟨g3,0,none⟩) 6 k3]:=pS3
 have pR4:Blk (W3.drewN nq) (w.heap.size+1+1) 33 [.slice none 0 0,.slice none 0 0,.slice none 0 0,.slice none 0 0]:=pR3
 have b4:Below w.heap.size w (W3.drewN nq):=bel_trans b3 (below_dN _)
 clear hO3 pS3 pR3 b3 v0 v1 v2 v3 u0 u1 u2 s0 y0 fz0
 generalize W3.drewN nq=W4 at *
 go_wp2_with (first | refine wpList_load_blk rfl 33 _ rfl (w.heap.size+1) rfl pS4 _ Tryz.underlying33 rfl (by kernel_rfl) ?_ | refine wpList_store_blk rfl 33 _ _ rfl (w.heap.size+1+1) [.slice (some ⟨g0,0,none⟩) 3 k0,.slice (some ⟨g1,0,none⟩) 4 k1,.slice (some ⟨g2,0,none⟩) 2 k2,.slice (some ⟨g3,0,none⟩) 6 k3] rfl rfl pR4 (by kernel_rfl) rfl rfl ?_)
 intro w9 pR9 gr9
 replace b4:=b4.grown gr9 b4.size (fun x hx=>by cases hx;omega)
 replace hO4:=hO4.kept9 gr9 pR4 (by decide)
 clear gr9 pR4 pS4
 go_wp2_with fail
 refine bodyPost_ret (results_blk2 Tryz.results102 _ _ _ _ _ _ rfl pR9.out Tryz.underlying33 rfl (by kernel_rfl)) rfl ?_
 exact ⟨VmGot.mk9 ((some ⟨g0,0,none⟩,3,k0),(some ⟨g1,0,none⟩,4,k1),(some ⟨g2,0,none⟩,2,k2),(some ⟨g3,0,none⟩,6,k3)) rfl hO4,b4⟩

theorem lstep_assert_no (b off len cap b0 o0 c0 b1 o1 c1 b2 o2 c2 b3 o3 c3 k cb co cn cc p:Nat) (a r:Nat) (z vv:Int) (m:V4) (w:World) (hk:k<3) (hlen:len=3) (hp:p<cn) (hp6:p≤6) (hs:shapeOk m=true) (hMm:Vmem w ((some ⟨b0,o0,none⟩,3,c0),(some ⟨b1,o1,none⟩,4,c1),(some ⟨b2,o2,none⟩,2,c2),(some ⟨b3,o3,none⟩,6,c3)) m) (hpc:m.1.getD k 0=p)
  (e0:w.cell? ⟨b,off+k,none⟩=some (.slice (some ⟨cb,co,none⟩) cn cc)) (e1:w.cell? ⟨b0,o0+k,none⟩=some (.int .i64 p)) (q0:w.cell? ⟨cb,co+p*3,none⟩=some (.int .i64 8)) (q1:w.cell? ⟨cb,co+p*3+1,none⟩=some (.int .i64 a)) (q2:w.cell? ⟨cb,co+p*3+2,none⟩=some (.int .i64 z)) (hr6:r<6) (hri:(k:Int)*2+(a:Int)=(r:Int)) (hvv:m.2.2.2.getD r 0=vv) (hv0:vv≠z) :
  Calls Tryz.prog 102 #[.agg #[.slice (some ⟨b,off,none⟩) len cap],.agg #[.slice (some ⟨b0,o0,none⟩) 3 c0,.slice (some ⟨b1,o1,none⟩) 4 c1,.slice (some ⟨b2,o2,none⟩) 2 c2,.slice (some ⟨b3,o3,none⟩) 6 c3],.int .i64 k] w fun e w'=>VmGot e w' w.heap.size (m.1.set k ((p:Int)+1),m.2) 12∧Below w.heap.size w w':=by
 have hL:=LenOk.of hs
 have kO:=fun (W:World) (hb:Below w.heap.size w W)=>l03Own_is ((some ⟨b0,o0,none⟩,3,c0),(some ⟨b1,o1,none⟩,4,c1),(some ⟨b2,o2,none⟩,2,c2),(some ⟨b3,o3,none⟩,6,c3)) m W (hMm.below hb) hs
 have uA:S4.val ((some ⟨b0,o0,none⟩,3,c0),(some ⟨b1,o1,none⟩,4,c1),(some ⟨b2,o2,none⟩,2,c2),(some ⟨b3,o3,none⟩,6,c3))=.agg #[.slice (some ⟨b0,o0,none⟩) 3 c0,.slice (some ⟨b1,o1,none⟩) 4 c1,.slice (some ⟨b2,o2,none⟩) 2 c2,.slice (some ⟨b3,o3,none⟩) 6 c3]:=rfl
 rw [uA] at kO
 clear uA
 have hk3:(k:Int)<3:=by omega
 have hkl:(k:Int)<(len:Int):=by omega
 have hpn:(p:Int)<(cn:Int):=by omega
 clear hlen
 have bw:Below w.heap.size w (((w.alloc (.cells #[.slice (some ⟨b,off,none⟩) len cap] 25)).alloc (.cells #[.slice (some ⟨b0,o0,none⟩) 3 c0,.slice (some ⟨b1,o1,none⟩) 4 c1,.slice (some ⟨b2,o2,none⟩) 2 c2,.slice (some ⟨b3,o3,none⟩) 6 c3] 33)).alloc (.cells #[.slice none 0 0,.slice none 0 0,.slice none 0 0,.slice none 0 0] 33)):=by go_grown
 have pP:Blk (((w.alloc (.cells #[.slice (some ⟨b,off,none⟩) len cap] 25)).alloc (.cells #[.slice (some ⟨b0,o0,none⟩) 3 c0,.slice (some ⟨b1,o1,none⟩) 4 c1,.slice (some ⟨b2,o2,none⟩) 2 c2,.slice (some ⟨b3,o3,none⟩) 6 c3] 33)).alloc (.cells #[.slice none 0 0,.slice none 0 0,.slice none 0 0,.slice none 0 0] 33)) w.heap.size 25 [.slice (some ⟨b,off,none⟩) len cap]:=blkOld _ (blkOld _ (blkAt _ _ _ rfl))
 have pS:Blk (((w.alloc (.cells #[.slice (some ⟨b,off,none⟩) len cap] 25)).alloc (.cells #[.slice (some ⟨b0,o0,none⟩) 3 c0,.slice (some ⟨b1,o1,none⟩) 4 c1,.slice (some ⟨b2,o2,none⟩) 2 c2,.slice (some ⟨b3,o3,none⟩) 6 c3] 33)).alloc (.cells #[.slice none 0 0,.slice none 0 0,.slice none 0 0,.slice none 0 0] 33)) (w.heap.size+1) 33 [.slice (some ⟨b0,o0,none⟩) 3 c0,.slice (some ⟨b1,o1,none⟩) 4 c1,.slice (some ⟨b2,o2,none⟩) 2 c2,.slice (some ⟨b3,o3,none⟩) 6 c3]:=blkOld _ (blkAt _ _ _ (by simp))
 have pR:Blk (((w.alloc (.cells #[.slice (some ⟨b,off,none⟩) len cap] 25)).alloc (.cells #[.slice (some ⟨b0,o0,none⟩) 3 c0,.slice (some ⟨b1,o1,none⟩) 4 c1,.slice (some ⟨b2,o2,none⟩) 2 c2,.slice (some ⟨b3,o3,none⟩) 6 c3] 33)).alloc (.cells #[.slice none 0 0,.slice none 0 0,.slice none 0 0,.slice none 0 0] 33)) (w.heap.size+1+1) 33 [.slice none 0 0,.slice none 0 0,.slice none 0 0,.slice none 0 0]:=blkAt _ _ _ (by simp)
 replace e0:=cells_kept bw _ _ e0
 replace e1:=cells_kept bw _ _ e1
 replace q0:=cells_kept bw _ _ q0
 replace q1:=cells_kept bw _ _ q1
 replace q2:=cells_kept bw _ _ q2
 go_enter Tryz.func102,Tryz.ntmps102
 go_wp2_with fail
 generalize (((w.alloc (.cells #[.slice (some ⟨b,off,none⟩) len cap] 25)).alloc (.cells #[.slice (some ⟨b0,o0,none⟩) 3 c0,.slice (some ⟨b1,o1,none⟩) 4 c1,.slice (some ⟨b2,o2,none⟩) 2 c2,.slice (some ⟨b3,o3,none⟩) 6 c3] 33)).alloc (.cells #[.slice none 0 0,.slice none 0 0,.slice none 0 0,.slice none 0 0] 33))=W0 at *
 have d0:=pP.cell 0
 have d1:=pS.cell 0
 simp only [List.getElem?_cons_zero] at d0 d1
 refine wp_region_held_drew (S:=(fun w'=>w'.cell? ⟨w.heap.size,0,none⟩=some (.slice (some ⟨b,off,none⟩) len cap)∧w'.cell? ⟨w.heap.size+1,0,none⟩=some (.slice (some ⟨b0,o0,none⟩) 3 c0)∧w'.cell? ⟨b,off+k,none⟩=some (.slice (some ⟨cb,co,none⟩) cn cc)∧w'.cell? ⟨b0,o0+k,none⟩=some (.int .i64 p)∧w'.cell? ⟨cb,co+p*3,none⟩=some (.int .i64 8)∧w'.cell? ⟨cb,co+p*3+1,none⟩=some (.int .i64 a)∧w'.cell? ⟨cb,co+p*3+2,none⟩=some (.int .i64 z))) (by kernel_rfl) ⟨d0,d1,e0,e1,q0,q1,q2⟩ (fun hS0=>?_)
 refine tkm 0 10 (.pointer (some ⟨w.heap.size,0,none⟩)) ?_
 refine tkm 1 11 (.slice (some ⟨b,off,none⟩) len cap) ?_
 refine tkm 2 12 (.int .i64 k) ?_
 refine tkm 3 13 (.pointer (some ⟨b,off+k,none⟩)) ?_
 refine tkm 4 14 (.slice (some ⟨cb,co,none⟩) cn cc) ?_
 refine tkm 5 15 (.pointer (some ⟨w.heap.size+1,0,none⟩)) ?_
 refine tkm 6 16 (.slice (some ⟨b0,o0,none⟩) 3 c0) ?_
 refine tkm 7 17 (.int .i64 k) ?_
 refine tkm 8 18 (.pointer (some ⟨b0,o0+k,none⟩)) ?_
 refine tkm 9 19 (.int .i64 p) ?_
 refine tkm 10 20 (.pointer (some ⟨cb,co+p*3,none⟩)) ?_
 refine tkm 11 21 (.agg #[.int .i64 8,.int .i64 a,.int .i64 z]) ?_
 refine tkr 12 8 (fun K hK=>?_)
 have hal:Below W0.drew.heap.size W0.drew (W0.drew.alloc (.cells #[.int .i64 0,.int .i64 0,.int .i64 0] 144)):=by go_grown
 go_simp
 refine hK.out _ _ ?_ (fun hS1=>?_)
 ·exact ⟨cells_kept hal _ _ hS0.1,cells_kept hal _ _ hS0.2.1,cells_kept hal _ _ hS0.2.2.1,cells_kept hal _ _ hS0.2.2.2.1,cells_kept hal _ _ hS0.2.2.2.2.1,cells_kept hal _ _ hS0.2.2.2.2.2.1,cells_kept hal _ _ hS0.2.2.2.2.2.2⟩
 clear hK
 try simp only [Act.put,tka,tkb,tkc]
 refine tkz 13 (fun K hK=>?_)
 have hal2:Below W0.drew.heap.size W0.drew (W0.drew.alloc (.cells #[.int .i64 8,.int .i64 a,.int .i64 z] 144)):=by go_grown
 go_simp
 refine hK.out _ _ ?_ (fun hS2=>?_)
 ·exact ⟨cells_kept hal2 _ _ hS0.1,cells_kept hal2 _ _ hS0.2.1,cells_kept hal2 _ _ hS0.2.2.1,cells_kept hal2 _ _ hS0.2.2.2.1,cells_kept hal2 _ _ hS0.2.2.2.2.1,cells_kept hal2 _ _ hS0.2.2.2.2.2.1,cells_kept hal2 _ _ hS0.2.2.2.2.2.2⟩
 clear hK
 try simp only [Act.put,tka,tkb,tkc]
 refine wpAnyH_done (by kernel_rfl) ?_ _
 clear hal hal2 hS0 hS1 hS2 e0 e1 q0 q1 q2 d0 d1
 have bx:Below W0.heap.size W0 (W0.alloc (.cells #[.int .i64 8,.int .i64 a,.int .i64 z] 144)).drew:=by go_grown
 have pX:Blk (W0.alloc (.cells #[.int .i64 8,.int .i64 a,.int .i64 z] 144)).drew W0.heap.size 144 [.int .i64 8,.int .i64 a,.int .i64 z]:=Blk.new W0 144 [.int .i64 8,.int .i64 a,.int .i64 z]
 have hgX:=pR.lt
 replace bw:=bel_trans bw bx
 replace pS:=pS.below bx
 replace pR:=pR.below bx
 clear bx pP
 generalize (W0.alloc (.cells #[.int .i64 8,.int .i64 a,.int .i64 z] 144)).drew=W1 at *
 generalize W0.heap.size=gX at *
 have kO1:=kO W1 bw
 clear kO
 go_wp2_with (refine wpList_load_blk rfl 33 _ rfl (w.heap.size+1) rfl pS _ Tryz.underlying33 rfl (by kernel_rfl) ?_)
 refine kO1.mono ?_
 rintro e w2 ⟨⟨t,rfl,hO⟩,hb⟩
 clear kO1
 obtain ⟨g0,g1,g2,g3,k0,k1,k2,k3,rfl⟩:=ownV_open hO hL
 have uX:S4.val ((some ⟨g0,0,none⟩,3,k0),(some ⟨g1,0,none⟩,4,k1),(some ⟨g2,0,none⟩,2,k2),(some ⟨g3,0,none⟩,6,k3))=.agg #[.slice (some ⟨g0,0,none⟩) 3 k0,.slice (some ⟨g1,0,none⟩) 4 k1,.slice (some ⟨g2,0,none⟩) 2 k2,.slice (some ⟨g3,0,none⟩) 6 k3]:=rfl
 rw [uX]
 clear uX
 replace hO:=hO.lower9 bw.size
 replace bw:=bel_trans bw hb
 replace pS:=pS.below hb
 replace pR:=pR.below hb
 replace pX:=pX.below hb
 clear hb
 go_wp2_with (refine wpList_store_blk rfl 33 _ _ rfl (w.heap.size+1) [.slice (some ⟨g0,0,none⟩) 3 k0,.slice (some ⟨g1,0,none⟩) 4 k1,.slice (some ⟨g2,0,none⟩) 2 k2,.slice (some ⟨g3,0,none⟩) 6 k3] rfl rfl pS (by kernel_rfl) rfl rfl ?_)
 intro w3 pS3 gr
 replace bw:=bw.grown gr bw.size (fun x hx=>by cases hx;omega)
 replace hO:=hO.kept9 gr pS (by decide)
 replace pR:=pR.kept gr (by simp)
 replace pX:=pX.kept gr (by simp;omega)
 clear gr pS
 have pS:=pS3.out
 clear pS3
 have neS0:=hO.1.1.ne9 pS (by decide)
 have neR0:=hO.1.1.ne9 pR (by decide)
 have neX0:=hO.1.1.ne9 pX (by decide)
 have neS1:=hO.1.2.1.ne9 pS (by decide)
 have neR1:=hO.1.2.1.ne9 pR (by decide)
 have neS2:=hO.1.2.2.1.ne9 pS (by decide)
 have neR2:=hO.1.2.2.1.ne9 pR (by decide)
 have neS3:=hO.1.2.2.2.ne9 pS (by decide)
 have neR3:=hO.1.2.2.2.ne9 pR (by decide)
 have lo0:=hO.1.1.lo9.1
 have s0:w3.cell? ⟨w.heap.size+1,0,none⟩=some (.slice (some ⟨g0,0,none⟩) 3 k0):=by simpa using pS.cell 0
 have y0:w3.cell? ⟨g0,k,none⟩=some (.int .i64 (p:Int)):=(hO.1.1.at9 hk).trans (congrArg (fun z=>some (Value.int .i64 z)) hpc)
 have fz0:=hO.1.1.frz9 k
 have hO3:=hO.set0 k ((p:Int)+1)
 have pS3:=pS.away9 (j:=k) (.int .i64 ((p:Int)+1)) neS0
 have pR3:=pR.away9 (j:=k) (.int .i64 ((p:Int)+1)) neR0
 have pX3:=pX.away9 (j:=k) (.int .i64 ((p:Int)+1)) neX0
 have b3:=bw.setCell (p:=⟨g0,k,none⟩) lo0 (.int .i64 ((p:Int)+1))
 have hpw:IntKind.i64.wrap ((p:Int)+1)=(p:Int)+1:=IntWalk.i64_in _ (by omega)
 have hkw:IntKind.i64.wrap ((k:Int)*2)=(k:Int)*2:=IntWalk.i64_in _ (by omega)
 clear hO pS pR pX bw neS0 neR0 neX0
 have v0:=pS3.cell 0
 have v1:=pS3.cell 1
 have v2:=pS3.cell 2
 have v3:=pS3.cell 3
 have u0:=pX3.cell 0
 have u1:=pX3.cell 1
 have u2:=pX3.cell 2
 simp only [List.getElem?_cons_zero,List.getElem?_cons_succ] at v0 v1 v2 v3 u0 u1 u2
 have hr6':(r:Int)<6:=by omega
 have hrw:IntKind.i64.wrap ((r:Int))=(r:Int):=IntWalk.i64_in _ (by omega)
 have r1:(w3.setCell ⟨g0,k,none⟩ (.int .i64 ((p:Int)+1))).cell? ⟨g3,r,none⟩=some (.int .i64 vv):=(hO3.1.2.2.2.at9 hr6).trans (congrArg (fun z=>some (Value.int .i64 z)) hvv)
 have hn0:(vv != z)=true:=by simp [hv0]
 clear hvv pX3
 go_wp2_with fail
 generalize (w3.setCell ⟨g0,k,none⟩ (.int .i64 ((p:Int)+1)))=W3 at *
 go_quiet (fail)
 have hO4:OwnV (W3.drewN nq) w.heap.size ((some ⟨g0,0,none⟩,3,k0),(some ⟨g1,0,none⟩,4,k1),(some ⟨g2,0,none⟩,2,k2),(some ⟨g3,0,none⟩,6,k3)) _:=hO3
 have pS4:Blk (W3.drewN nq) (w.heap.size+1) 33 [.slice (some ⟨g0,0,none⟩) 3 k0,.slice (some ⟨g1,0,none⟩) 4 k1,.slice (some ⟨g2,0,none⟩) 2 k2,.slice (some ⟨g3,0,none⟩) 6 k3]:=pS3
 have pR4:Blk (W3.drewN nq) (w.heap.size+1+1) 33 [.slice none 0 0,.slice none 0 0,.slice none 0 0,.slice none 0 0]:=pR3
 have b4:Below w.heap.size w (W3.drewN nq):=bel_trans b3 (below_dN _)
 clear hO3 pS3 pR3 b3 v0 v1 v2 v3 u0 u1 u2 s0 y0 fz0
 generalize W3.drewN nq=W4 at *
 go_wp2_with (first | refine wpList_load_blk rfl 33 _ rfl (w.heap.size+1) rfl pS4 _ Tryz.underlying33 rfl (by kernel_rfl) ?_ | refine wpList_store_blk rfl 33 _ _ rfl (w.heap.size+1+1) [.slice (some ⟨g0,0,none⟩) 3 k0,.slice (some ⟨g1,0,none⟩) 4 k1,.slice (some ⟨g2,0,none⟩) 2 k2,.slice (some ⟨g3,0,none⟩) 6 k3] rfl rfl pR4 (by kernel_rfl) rfl rfl ?_)
 intro w9 pR9 gr9
 replace b4:=b4.grown gr9 b4.size (fun x hx=>by cases hx;omega)
 replace hO4:=hO4.kept9 gr9 pR4 (by decide)
 clear gr9 pR4 pS4
 go_wp2_with fail
 refine bodyPost_ret (results_blk2 Tryz.results102 _ _ _ _ _ _ rfl pR9.out Tryz.underlying33 rfl (by kernel_rfl)) rfl ?_
 exact ⟨VmGot.mk9 ((some ⟨g0,0,none⟩,3,k0),(some ⟨g1,0,none⟩,4,k1),(some ⟨g2,0,none⟩,2,k2),(some ⟨g3,0,none⟩,6,k3)) rfl hO4,b4⟩


theorem okI_parts {x:I3} (h:okI x=true) :
  (∃ a q:Nat,x=(1,(a:Int),(q:Int))∧a<2∧q<4)∨(∃ q a:Nat,x=(2,(q:Int),(a:Int))∧q<4∧a<2)∨(∃ (a:Nat) (z:Int),x=(3,(a:Int),z)∧a<2)∨(∃ (a:Nat) (z:Int),x=(4,(a:Int),z)∧a<2∧0≤z∧z≤9) ∨
  (∃ (a:Nat) (z:Int),x=(5,(a:Int),z)∧a<2)∨(∃ (a:Nat) (z:Int),x=(6,(a:Int),z)∧a<2)∨(∃ (a:Nat) (z:Int),x=(7,(a:Int),z)∧a<2∧1≤z∧z≤6)∨(∃ (a:Nat) (z:Int),x=(8,(a:Int),z)∧a<2):=by
 obtain ⟨o,a,b⟩:=x
 unfold okI at h
 simp only at h
 rcases op_cases (o,a,b) with e | e | e | e | e | e | e | e | e<;>simp only at e
 ·subst e
  simp [inB_true] at h
  exact .inl ⟨a.toNat,b.toNat,by rw [show ((a.toNat:Nat):Int)=a by omega,show ((b.toNat:Nat):Int)=b by omega],by omega,by omega⟩
 ·subst e
  simp [inB_true] at h
  exact .inr (.inl ⟨a.toNat,b.toNat,by rw [show ((a.toNat:Nat):Int)=a by omega,show ((b.toNat:Nat):Int)=b by omega],by omega,by omega⟩)
 ·subst e
  simp [inB_true] at h
  exact .inr (.inr (.inl ⟨a.toNat,b,by rw [show ((a.toNat:Nat):Int)=a by omega],by omega⟩))
 ·subst e
  simp [inB_true] at h
  exact .inr (.inr (.inr (.inl ⟨a.toNat,b,by rw [show ((a.toNat:Nat):Int)=a by omega],by omega,by omega,by omega⟩)))
 ·subst e
  simp [inB_true] at h
  exact .inr (.inr (.inr (.inr (.inl ⟨a.toNat,b,by rw [show ((a.toNat:Nat):Int)=a by omega],by omega⟩))))
 ·subst e
  simp [inB_true] at h
  exact .inr (.inr (.inr (.inr (.inr (.inl ⟨a.toNat,b,by rw [show ((a.toNat:Nat):Int)=a by omega],by omega⟩)))))
 ·subst e
  simp [inB_true] at h
  exact .inr (.inr (.inr (.inr (.inr (.inr (.inl ⟨a.toNat,b,by rw [show ((a.toNat:Nat):Int)=a by omega],by omega,by omega,by omega⟩))))))
 ·subst e
  simp [inB_true] at h
  exact .inr (.inr (.inr (.inr (.inr (.inr (.inr ⟨a.toNat,b,by rw [show ((a.toNat:Nat):Int)=a by omega],by omega⟩))))))
 ·obtain ⟨e1,e2,e3,e4,e5,e6,e7,e8⟩:=e
  simp [e1,e2,e3,e4,e5,e6,e7,e8] at h
section
variable (m : V4) (k a q : Nat) (z : Int)
theorem stepM_1:stepM m (1,(a:Int),(q:Int)) k=((m.1.set k (m.1.getD k 0+1),m.2.1,m.2.2.1,m.2.2.2.set (k*2+a) (m.2.1.getD q 0)),0):=rfl
theorem stepM_2:stepM m (2,(q:Int),(a:Int)) k=((m.1.set k (m.1.getD k 0+1),m.2.1.set q (m.2.2.2.getD (k*2+a) 0),m.2.2.1,m.2.2.2),0):=rfl
theorem stepM_3:stepM m (3,(a:Int),z) k=((m.1.set k (m.1.getD k 0+1),m.2.1,m.2.2.1,m.2.2.2.set (k*2+a) z),0):=rfl
theorem stepM_4:stepM m (4,(a:Int),z) k=((m.1.set k (m.1.getD k 0+1),m.2.1,m.2.2.1,m.2.2.2.set (k*2+a) ((m.2.2.2.getD (k*2+a) 0+z) % 10)),0):=rfl
theorem stepM_5:stepM m (5,(a:Int),z) k=((m.1.set k (m.1.getD k 0+1),m.2.1,m.2.2.1.set a ((k:Int)+1),m.2.2.2),0):=rfl
theorem stepM_6:stepM m (6,(a:Int),z) k=if m.2.2.1.getD a 0=(k:Int)+1 then ((m.1.set k (m.1.getD k 0+1),m.2.1,m.2.2.1.set a 0,m.2.2.2),0) else ((m.1.set k (m.1.getD k 0+1),m.2),13):=rfl
theorem stepM_7:stepM m (7,(a:Int),z) k=if m.2.2.2.getD (k*2+a) 0=0 then ((m.1.set k (m.1.getD k 0+1),m.2),0) else ((m.1.set k z,m.2),0):=rfl
theorem stepM_8:stepM m (8,(a:Int),z) k=if m.2.2.2.getD (k*2+a) 0=z then ((m.1.set k (m.1.getD k 0+1),m.2),0) else ((m.1.set k (m.1.getD k 0+1),m.2),12):=rfl
end

theorem step_is {w:World} {g:Nat} {cs:Sl × Sl × Sl} {rows:List (List I3)} {m:V4} (h:MachAt w g cs rows m) (hp:progOk rows=true) (hs:shapeOk m=true) {k:Nat} (hk:k<3) (hd:doneM rows m k=false) :
  Calls Tryz.prog 63 #[.pointer (some ⟨g,0,none⟩),.int .i64 k] w fun e w'=>e=.returned (.int .i64 (stepM m (insM rows m k) k).2)∧Blk w' g 95 (machCells cs.1.val cs.2.1.val cs.2.2.val (stepM m (insM rows m k) k).1)∧w.grownBy w' (some g):=by
 obtain ⟨p,ep,hlt,hi,hok⟩:=at_ins hp hs hk hd
 have hl6:=(codeM_len hp hk).1
 have e0:=h.code hk
 have e1:=h.pc hk
 rw [ep] at e1
 obtain ⟨b,off,ea,hpn,q0,q1,q2⟩:=ins_at (h.2 k hk) hlt
 rw [← hi] at q0 q1 q2
 rw [ea] at e0
 have hL:=LenOk.of hs
 have hr9:=(shape_bounds hs).2.2.2
 generalize insM rows m k=x at *
 rcases okI_parts hok with ⟨a,q,rfl,ha,hq⟩ | ⟨q,a,rfl,hq,ha⟩ | ⟨a,z,rfl,ha⟩ | ⟨a,z,rfl,ha,hz⟩ | ⟨a,z,rfl,ha⟩ | ⟨a,z,rfl,ha⟩ | ⟨a,z,rfl,ha,hz⟩ | ⟨a,z,rfl,ha⟩<;>simp only at q0 q1 q2
 ·rw [stepM_1,ep]
  exact step_load g k p b off _ _ a q _ cs m w hk hpn (by omega) hL h.1 (.inr trivial) e0 e1 q0 q1 q2 ha hq rfl
 ·rw [stepM_2,ep]
  exact step_store g k p b off _ _ a q _ cs m w hk hpn (by omega) hL h.1 (.inr trivial) e0 e1 q0 q1 q2 ha hq rfl
 ·rw [stepM_3,ep]
  exact step_set g k p b off _ _ a z cs m w hk hpn (by omega) hL h.1 (.inr trivial) e0 e1 q0 q1 q2 ha
 ·rw [stepM_4,ep]
  exact step_add g k p b off _ _ a z _ _ cs m w hk hpn (by omega) hL h.1 (.inr trivial) e0 e1 q0 q1 q2 ha rfl hz (getD_in hr9 (by decide) _) rfl
 ·rw [stepM_5,ep]
  exact step_lock g k p b off _ _ a z cs m w hk hpn (by omega) hL h.1 (.inr trivial) e0 e1 q0 q1 q2 ha
 ·rw [stepM_6,ep]
  by_cases hv:m.2.2.1.getD a 0=(k:Int)+1
  ·rw [if_pos hv]
   exact step_unlock_yes g k p b off _ _ a z cs m w hk hpn (by omega) hL h.1 (.inr trivial) e0 e1 q0 q1 q2 ha hv
  ·rw [if_neg hv]
   exact step_unlock_no g k p b off _ _ a z cs m w hk hpn (by omega) hL h.1 (.inr trivial) e0 e1 q0 q1 q2 ha hv
 ·rw [stepM_7,ep]
  by_cases hv:m.2.2.2.getD (k*2+a) 0=0
  ·rw [if_pos hv]
   exact step_stay g k p b off _ _ a z cs m w hk hpn (by omega) hL h.1 (.inr trivial) e0 e1 q0 q1 q2 ha hv
  ·rw [if_neg hv]
   exact step_jump g k p b off _ _ a z _ cs m w hk hpn (by omega) hL h.1 (.inr trivial) e0 e1 q0 q1 q2 ha rfl hv
 ·rw [stepM_8,ep]
  by_cases hv:m.2.2.2.getD (k*2+a) 0=z
  ·rw [if_pos hv]
   exact step_assert_yes g k p b off _ _ a z cs m w hk hpn (by omega) hL h.1 (.inr trivial) e0 e1 q0 q1 q2 ha hv
  ·rw [if_neg hv]
   exact step_assert_no g k p b off _ _ a z _ cs m w hk hpn (by omega) hL h.1 (.inr trivial) e0 e1 q0 q1 q2 ha rfl hv

theorem l03Step_is {w:World} {a9:Option Addr} {len cap:Nat} {cs:Sl × Sl × Sl} {rows:List (List I3)} {s:S4} {m:V4} (hl:len=3) (hR:RowsAt w a9 cs rows) (h:Vmem w s m) (hp:progOk rows=true) (hs:shapeOk m=true) {k:Nat} (hk:k<3) (hd:doneM rows m k=false) :
  Calls Tryz.prog 102 #[.agg #[.slice a9 len cap],s.val,.int .i64 k] w fun e w'=>VmGot e w' w.heap.size (stepM m (insM rows m k) k).1 (stepM m (insM rows m k) k).2∧Below w.heap.size w w':=by
 obtain ⟨p,ep,hlt,hi,hok⟩:=at_ins hp hs hk hd
 have hl6:=(codeM_len hp hk).1
 obtain ⟨b,off,rfl,_,hrow⟩:=hR
 obtain ⟨e0,hI⟩:=hrow k hk
 have hM:=h
 obtain ⟨⟨j0,_⟩,⟨j1,_⟩,⟨j2,_⟩,⟨j3,_⟩⟩:=h
 obtain ⟨l0,l1,l2,l3,_⟩:=shape_parts hs
 obtain ⟨⟨a0,n0,c0⟩,⟨a1,n1,c1⟩,⟨a2,n2,c2⟩,⟨a3,n3,c3⟩⟩:=s
 simp only at j0 j1 j2 j3
 obtain ⟨rfl,b0,o0,rfl⟩:=some_of_ints j0 l0 (by decide)
 obtain ⟨rfl,b1,o1,rfl⟩:=some_of_ints j1 l1 (by decide)
 obtain ⟨rfl,b2,o2,rfl⟩:=some_of_ints j2 l2 (by decide)
 obtain ⟨rfl,b3,o3,rfl⟩:=some_of_ints j3 l3 (by decide)
 have e1:=ints_at9 j0 (t:=k) hk
 rw [ep] at e1
 obtain ⟨cb,co,ea,hpn,q0,q1,q2⟩:=ins_at hI hlt
 rw [← hi] at q0 q1 q2
 rw [ea] at e0
 have hr9:=(shape_bounds hs).2.2.2
 have hriA:∀ a:Nat,(k:Int)*2+(a:Int)=((k*2+a:Nat):Int):=fun a=>by omega
 have hr6A:∀ a:Nat,a<2→k*2+a<6:=fun a ha=>by omega
 generalize insM rows m k=x at *
 rcases okI_parts hok with ⟨a,q,rfl,ha,hq⟩ | ⟨q,a,rfl,hq,ha⟩ | ⟨a,z,rfl,ha⟩ | ⟨a,z,rfl,ha,hz⟩ | ⟨a,z,rfl,ha⟩ | ⟨a,z,rfl,ha⟩ | ⟨a,z,rfl,ha,hz⟩ | ⟨a,z,rfl,ha⟩<;>simp only at q0 q1 q2
 ·rw [stepM_1,ep]
  exact lstep_load b off len cap b0 o0 c0 b1 o1 c1 b2 o2 c2 b3 o3 c3 k cb co _ _ p a q (k*2+a) _ m w hk hl hpn (by omega) hs hM ep e0 e1 q0 q1 q2 (hr6A a ha) (hriA a) hq rfl
 ·rw [stepM_2,ep]
  exact lstep_store b off len cap b0 o0 c0 b1 o1 c1 b2 o2 c2 b3 o3 c3 k cb co _ _ p a q (k*2+a) _ m w hk hl hpn (by omega) hs hM ep e0 e1 q0 q1 q2 (hr6A a ha) (hriA a) hq rfl
 ·rw [stepM_3,ep]
  exact lstep_set b off len cap b0 o0 c0 b1 o1 c1 b2 o2 c2 b3 o3 c3 k cb co _ _ p a (k*2+a) z m w hk hl hpn (by omega) hs hM ep e0 e1 q0 q1 q2 (hr6A a ha) (hriA a)
 ·rw [stepM_4,ep]
  exact lstep_add b off len cap b0 o0 c0 b1 o1 c1 b2 o2 c2 b3 o3 c3 k cb co _ _ p a (k*2+a) z _ _ m w hk hl hpn (by omega) hs hM ep e0 e1 q0 q1 q2 (hr6A a ha) (hriA a) rfl hz (getD_in hr9 (by decide) _) rfl
 ·rw [stepM_5,ep]
  exact lstep_lock b off len cap b0 o0 c0 b1 o1 c1 b2 o2 c2 b3 o3 c3 k cb co _ _ p a z m w hk hl hpn (by omega) hs hM ep e0 e1 q0 q1 q2 ha
 ·rw [stepM_6,ep]
  by_cases hv:m.2.2.1.getD a 0=(k:Int)+1
  ·rw [if_pos hv]
   exact lstep_unlock_yes b off len cap b0 o0 c0 b1 o1 c1 b2 o2 c2 b3 o3 c3 k cb co _ _ p a z m w hk hl hpn (by omega) hs hM ep e0 e1 q0 q1 q2 ha hv
  ·rw [if_neg hv]
   exact lstep_unlock_no b off len cap b0 o0 c0 b1 o1 c1 b2 o2 c2 b3 o3 c3 k cb co _ _ p a z _ m w hk hl hpn (by omega) hs hM ep e0 e1 q0 q1 q2 ha rfl hv
 ·rw [stepM_7,ep]
  by_cases hv:m.2.2.2.getD (k*2+a) 0=0
  ·rw [if_pos hv]
   exact lstep_stay b off len cap b0 o0 c0 b1 o1 c1 b2 o2 c2 b3 o3 c3 k cb co _ _ p a (k*2+a) z m w hk hl hpn (by omega) hs hM ep e0 e1 q0 q1 q2 (hr6A a ha) (hriA a) hv
  ·rw [if_neg hv]
   exact lstep_jump b off len cap b0 o0 c0 b1 o1 c1 b2 o2 c2 b3 o3 c3 k cb co _ _ p a (k*2+a) z _ m w hk hl hpn (by omega) hs hM ep e0 e1 q0 q1 q2 (hr6A a ha) (hriA a) rfl hv
 ·rw [stepM_8,ep]
  by_cases hv:m.2.2.2.getD (k*2+a) 0=z
  ·rw [if_pos hv]
   exact lstep_assert_yes b off len cap b0 o0 c0 b1 o1 c1 b2 o2 c2 b3 o3 c3 k cb co _ _ p a (k*2+a) z m w hk hl hpn (by omega) hs hM ep e0 e1 q0 q1 q2 (hr6A a ha) (hriA a) hv
  ·rw [if_neg hv]
   exact lstep_assert_no b off len cap b0 o0 c0 b1 o1 c1 b2 o2 c2 b3 o3 c3 k cb co _ _ p a (k*2+a) z _ m w hk hl hpn (by omega) hs hM ep e0 e1 q0 q1 q2 (hr6A a ha) (hriA a) rfl hv




theorem allIn_set {zs:List Int} {n hi v:Int} (h:allIn zs n hi=true) (k:Nat) (h0:0≤v) (h1:v≤hi):allIn (zs.set k v) n hi=true:=by
 obtain ⟨hl,ha⟩:=allIn_parts h
 unfold allIn
 simp only [Bool.and_eq_true,List.all_eq_true,decide_eq_true_eq,List.length_set]
 exact ⟨fun z hz=>by rcases List.mem_or_eq_of_mem_set hz with q | q;exact ha z q;subst q;exact ⟨h0,h1⟩,hl⟩
theorem shape_step {rows:List (List I3)} {m:V4} (hp:progOk rows=true) (hs:shapeOk m=true) {k:Nat} (hk:k<3) (hd:doneM rows m k=false):shapeOk (stepM m (insM rows m k) k).1=true:=by
 obtain ⟨p,ep,hlt,hi,hok⟩:=at_ins hp hs hk hd
 have hl6:=(codeM_len hp hk).1
 obtain ⟨b0,b1,b2,b3⟩:=shape_bounds hs
 have hs':=hs
 unfold shapeOk at hs'
 simp only [Bool.and_eq_true] at hs'
 obtain ⟨s0,s1,s2,s3⟩:=hs'
 have hpc:allIn (m.1.set k (m.1.getD k 0+1)) 3 6=true:=allIn_set s0 k (by omega) (by omega)
 have g1:=fun j=>getD_in b1 (by decide) j
 have g3:=fun j=>getD_in b3 (by decide) j
 generalize insM rows m k=x at *
 obtain ⟨o,y,v⟩:=x
 unfold okI at hok
 simp only at hok
 unfold shapeOk
 rcases op_cases (o,y,v) with e | e | e | e | e | e | e | e | e<;>simp only at e
 ·subst e
  simp [inB_true] at hok
  simp only [stepM,if_true,Bool.and_eq_true]
  exact ⟨hpc,s1,s2,allIn_set s3 _ (g1 _).1 (g1 _).2⟩
 ·subst e
  simp [inB_true] at hok
  simp [stepM]
  exact ⟨hpc,allIn_set s1 _ (g3 _).1 (g3 _).2,s2,s3⟩
 ·subst e
  simp [inB_true] at hok
  simp [stepM]
  exact ⟨hpc,s1,s2,allIn_set s3 _ (by omega) (by omega)⟩
 ·subst e
  simp [inB_true] at hok
  simp [stepM]
  exact ⟨hpc,s1,s2,allIn_set s3 _ (by omega) (by omega)⟩
 ·subst e
  simp [inB_true] at hok
  simp [stepM]
  exact ⟨hpc,s1,allIn_set s2 _ (by omega) (by omega),s3⟩
 ·subst e
  simp [inB_true] at hok
  simp [stepM]
  split
  ·exact ⟨hpc,s1,allIn_set s2 _ (by omega) (by omega),s3⟩
  ·exact ⟨hpc,s1,s2,s3⟩
 ·subst e
  simp [inB_true] at hok
  simp [stepM]
  split
  ·exact ⟨hpc,s1,s2,s3⟩
  ·exact ⟨allIn_set s0 _ (by omega) (by omega),s1,s2,s3⟩
 ·subst e
  simp [inB_true] at hok
  simp [stepM]
  split<;>exact ⟨hpc,s1,s2,s3⟩
 ·obtain ⟨e1,e2,e3,e4,e5,e6,e7,e8⟩:=e
  simp [e1,e2,e3,e4,e5,e6,e7,e8] at hok
theorem can_parts {rows:List (List I3)} {m:V4} {k:Nat} (h:canM rows m k=true):doneM rows m k=false∧waitM rows m k=false:=by
 unfold canM at h
 unfold waitM
 simp at h
 simp [h]
theorem shape_fits9 {z:V4} (h:shapeOk z=true):V4.fits z∧z.1.length≤1048576∧z.2.1.length≤1048576∧z.2.2.1.length≤1048576∧z.2.2.2.length≤1048576:=by
 obtain ⟨l0,l1,l2,l3,_⟩:=shape_parts h
 obtain ⟨b0,b1,b2,b3⟩:=shape_bounds h
 exact ⟨⟨fun x hx=>fits_small (by have:=b0 x hx;omega) (by have:=b0 x hx;omega),fun x hx=>fits_small (by have:=b1 x hx;omega) (by have:=b1 x hx;omega),fun x hx=>fits_small (by have:=b2 x hx;omega) (by have:=b2 x hx;omega),fun x hx=>fits_small (by have:=b3 x hx;omega) (by have:=b3 x hx;omega)⟩,by omega,by omega,by omega,by omega⟩
end Go.Proofs.YtfpopbbmnbehiaaGreatDoor
