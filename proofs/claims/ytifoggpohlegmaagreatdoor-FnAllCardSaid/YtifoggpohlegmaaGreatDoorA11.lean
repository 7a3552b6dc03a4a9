/-
  Joined: SpecP#3, MachX, MachS, DoneA.
-/
import Derived.Test.YtifoggpohlegmaaGreatDoorA10

namespace Go.Proofs.YtifoggpohlegmaaGreatDoor
set_option maxRecDepth 100000
set_option maxHeartbeats 16000000
open Go.RowKit
set_option linter.unusedVariables false
set_option linter.unusedSimpArgs false

theorem lstep_stay (b off len cap b0 o0 c0 b1 o1 c1 b2 o2 c2 b3 o3 c3 k cb co cn cc p:Nat) (a r:Nat) (z:Int) (m:V4) (w:World) (hk:k<3) (hlen:len=3) (hp:p<cn) (hp6:p≤6) (hs:shapeOk m=true) (hMm:Vmem w ((some ⟨b0,o0,none⟩,3,c0),(some ⟨b1,o1,none⟩,4,c1),(some ⟨b2,o2,none⟩,2,c2),(some ⟨b3,o3,none⟩,6,c3)) m) (hpc:m.1.getD k 0=p)
  (e0:w.cell? ⟨b,off+k,none⟩=some (.slice (some ⟨cb,co,none⟩) cn cc)) (e1:w.cell? ⟨b0,o0+k,none⟩=some (.int .i64 p)) (q0:w.cell? ⟨cb,co+p*3,none⟩=some (.int .i64 7)) (q1:w.cell? ⟨cb,co+p*3+1,none⟩=some (.int .i64 a)) (q2:w.cell? ⟨cb,co+p*3+2,none⟩=some (.int .i64 z)) (hr6:r<6) (hri:(k:Int)*2+(a:Int)=(r:Int)) (hvv:m.2.2.2.getD r 0=0) :
  Calls Tryz.prog 99 #[.agg #[.slice (some ⟨b,off,none⟩) len cap],.agg #[.slice (some ⟨b0,o0,none⟩) 3 c0,.slice (some ⟨b1,o1,none⟩) 4 c1,.slice (some ⟨b2,o2,none⟩) 2 c2,.slice (some ⟨b3,o3,none⟩) 6 c3],.int .i64 k] w fun e w'=>VmGot e w' w.heap.size (m.1.set k ((p:Int)+1),m.2) 0∧Below w.heap.size w w':=by
 have hL:=LenOk.of hs
 have kO:=fun (W:World) (hb:Below w.heap.size w W)=>l03Own_is ((some ⟨b0,o0,none⟩,3,c0),(some ⟨b1,o1,none⟩,4,c1),(some ⟨b2,o2,none⟩,2,c2),(some ⟨b3,o3,none⟩,6,c3)) m W (hMm.below hb) hs
 have uA:S4.val ((some ⟨b0,o0,none⟩,3,c0),(some ⟨b1,o1,none⟩,4,c1),(some ⟨b2,o2,none⟩,2,c2),(some ⟨b3,o3,none⟩,6,c3))=.agg #[.slice (some ⟨b0,o0,none⟩) 3 c0,.slice (some ⟨b1,o1,none⟩) 4 c1,.slice (some ⟨b2,o2,none⟩) 2 c2,.slice (some ⟨b3,o3,none⟩) 6 c3]:=rfl
 rw [uA] at kO
 clear uA
 have hk3:(k:Int)<3:=by omega
 have hkl:(k:Int)<(len:Int):=by omega
 have hpn:(p:Int)<(cn:Int):=by omega
 clear hlen
 have bw:Below w.heap.size w (((w.alloc (.cells #[.slice (some ⟨b,off,none⟩) len cap] 25)).alloc (.cells #[.slice (some ⟨b0,o0,none⟩) 3 c0,.slice (some ⟨b1,o1,none⟩) 4 c1,.slice (some ⟨b2,o2,none⟩) 2 c2,.slice (some ⟨b3,o3,none⟩) 6 c3] 33)).alloc (.cells #[.slice none 0 0,.slice none 0 0,.slice none 0 0,.slice none 0 0] 33)):=by go_grown
 have pP:Blk (((w.alloc (.cells #[.slice (some ⟨b,off,none⟩) len cap] 25)).alloc (.cells #[.slice (some ⟨b0,o0,none⟩) 3 c0,.slice (some ⟨b1,o1,none⟩) 4 c1,.slice (some ⟨b2,o2,none⟩) 2 c2,.slice (some ⟨b3,o3,none⟩) 6 c3] 33)).alloc (.cells #[.slice none 0 0,.slice none 0 0,.slice none 0 0,.slice none 0 0] 33)) w.heap.size 25 [.slice (some ⟨b,off,none⟩) len cap]:=blkOld _ (blkOld _ (blkAt _ _ _ rfl))
 have pS:Blk (((w.alloc (.cells #[.slice (some ⟨b,off,none⟩) len cap] 25)).alloc (.cells #[.slice (some ⟨b0,o0,none⟩) 3 c0,.slice (some ⟨b1,o1,none⟩) 4 c1,.slice (some ⟨b2,o2,none⟩) 2 c2,.slice (some ⟨b3,o3,none⟩) 6 c3] 33)).alloc (.cells #[.slice none 0 0,.slice none 0 0,.slice none 0 0,.slice none 0 0] 33)) (w.heap.size+1) 33 [.slice (some ⟨b0,o0,none⟩) 3 c0,.slice (some ⟨b1,o1,none⟩) 4 c1,.slice (some ⟨b2,o2,none⟩) 2 c2,.slice (some ⟨b3,o3,none⟩) 6 c3]:=blkOld _ (blkAt _ _ _ (by simp))
 have pR:Blk (((w.alloc (.cells #[.slice (some ⟨b,off,none⟩) len cap] 25)).alloc (.cells #[.slice (some ⟨b0,o0,none⟩) 3 c0,.slice (some ⟨b1,o1,none⟩) 4 c1,.slice (some ⟨b2,o2,none⟩) 2 c2,.slice (some ⟨b3,o3,none⟩) 6 c3] 33)).alloc (.cells #[.slice none 0 0,.slice none 0 0,.slice none 0 0,.slice none 0 0] 33)) (w.heap.size+1+1) 33 [.slice none 0 0,.slice none 0 0,.slice none 0 0,.slice none 0 0]:=blkAt _ _ _ (by simp)
 replace e0:=cells_kept bw _ _ e0
 replace e1:=cells_kept bw _ _ e1
 replace q0:=cells_kept bw _ _ q0
 replace q1:=cells_kept bw _ _ q1
 replace q2:=cells_kept bw _ _ q2
 go_enter Tryz.func99,Tryz.ntmps99
 go_wp2_with fail
 generalize (((w.alloc (.cells #[.slice (some ⟨b,off,none⟩) len cap] 25)).alloc (.cells #[.slice (some ⟨b0,o0,none⟩) 3 c0,.slice (some ⟨b1,o1,none⟩) 4 c1,.slice (some ⟨b2,o2,none⟩) 2 c2,.slice (some ⟨b3,o3,none⟩) 6 c3] 33)).alloc (.cells #[.slice none 0 0,.slice none 0 0,.slice none 0 0,.slice none 0 0] 33))=W0 at *
 have d0:=pP.cell 0
 have d1:=pS.cell 0
 simp only [List.getElem?_cons_zero] at d0 d1
 refine wp_region_held_drew (S:=(fun w'=>w'.cell? ⟨w.heap.size,0,none⟩=some (.slice (some ⟨b,off,none⟩) len cap)∧w'.cell? ⟨w.heap.size+1,0,none⟩=some (.slice (some ⟨b0,o0,none⟩) 3 c0)∧w'.cell? ⟨b,off+k,none⟩=some (.slice (some ⟨cb,co,none⟩) cn cc)∧w'.cell? ⟨b0,o0+k,none⟩=some (.int .i64 p)∧w'.cell? ⟨cb,co+p*3,none⟩=some (.int .i64 7)∧w'.cell? ⟨cb,co+p*3+1,none⟩=some (.int .i64 a)∧w'.cell? ⟨cb,co+p*3+2,none⟩=some (.int .i64 z))) (by kernel_rfl) ⟨d0,d1,e0,e1,q0,q1,q2⟩ (fun hS0=>?_)
 refine tkm 0 10 (.pointer (some ⟨w.heap.size,0,none⟩)) ?_
 refine tkm 1 11 (.slice (some ⟨b,off,none⟩) len cap) ?_
 refine tkm 2 12 (.int .i64 k) ?_
 refine tkm 3 13 (.pointer (some ⟨b,off+k,none⟩)) ?_
 refine tkm 4 14 (.slice (some ⟨cb,co,none⟩) cn cc) ?_
 refine tkm 5 15 (.pointer (some ⟨w.heap.size+1,0,none⟩)) ?_
 refine tkm 6 16 (.slice (some ⟨b0,o0,none⟩) 3 c0) ?_
 refine tkm 7 17 (.int .i64 k) ?_
 refine tkm 8 18 (.pointer (some ⟨b0,o0+k,none⟩)) ?_
 refine tkm 9 19 (.int .i64 p) ?_
 refine tkm 10 20 (.pointer (some ⟨cb,co+p*3,none⟩)) ?_
 refine tkm 11 21 (.agg #[.int .i64 7,.int .i64 a,.int .i64 z]) ?_
 refine tkr 12 8 (fun K hK=>?_)
 have hal:Below W0.drew.heap.size W0.drew (W0.drew.alloc (.cells #[.int .i64 0,.int .i64 0,.int .i64 0] 159)):=by go_grown
 go_simp
 refine hK.out _ _ ?_ (fun hS1=>?_)
 ·exact ⟨cells_kept hal _ _ hS0.1,cells_kept hal _ _ hS0.2.1,cells_kept hal _ _ hS0.2.2.1,cells_kept hal _ _ hS0.2.2.2.1,cells_kept hal _ _ hS0.2.2.2.2.1,cells_kept hal _ _ hS0.2.2.2.2.2.1,cells_kept hal _ _ hS0.2.2.2.2.2.2⟩
 clear hK
 try simp only [Act.put,tka,tkb,tkc]
 refine tkz 13 (fun K hK=>?_)
 have hal2:Below W0.drew.heap.size W0.drew (W0.drew.alloc (.cells #[.int .i64 7,.int .i64 a,.int .i64 z] 159)):=by go_grown
 go_simp
 refine hK.out _ _ ?_ (fun hS2=>?_)
 ·exact ⟨cells_kept hal2 _ _ hS0.1,cells_kept hal2 _ _ hS0.2.1,cells_kept hal2 _ _ hS0.2.2.1,cells_kept hal2 _ _ hS0.2.2.2.1,cells_kept hal2 _ _ hS0.2.2.2.2.1,cells_kept hal2 _ _ hS0.2.2.2.2.2.1,cells_kept hal2 _ _ hS0.2.2.2.2.2.2⟩
 clear hK
 try simp only [Act.put,tka,tkb,tkc]
 refine wpAnyH_done (by kernel_rfl) ?_ _
 clear hal hal2 hS0 hS1 hS2 e0 e1 q0 q1 q2 d0 d1
 have bx:Below W0.heap.size W0 (W0.alloc (.cells #[.int .i64 7,.int .i64 a,.int .i64 z] 159)).drew:=by go_grown
 have pX:Blk (W0.alloc (.cells #[.int .i64 7,.int .i64 a,.int .i64 z] 159)).drew W0.heap.size 159 [.int .i64 7,.int .i64 a,.int .i64 z]:=Blk.new W0 159 [.int .i64 7,.int .i64 a,.int .i64 z]
 have hgX:=pR.lt
 replace bw:=bel_trans bw bx
 replace pS:=pS.below bx
 replace pR:=pR.below bx
 clear bx pP
 generalize (W0.alloc (.cells #[.int .i64 7,.int .i64 a,.int .i64 z] 159)).drew=W1 at *
 generalize W0.heap.size=gX at *
 have kO1:=kO W1 bw
 clear kO
 go_wp2_with (refine wpList_load_blk rfl 33 _ rfl (w.heap.size+1) rfl pS _ Tryz.underlying33 rfl (by kernel_rfl) ?_)
 refine kO1.mono ?_
 rintro e w2 ⟨⟨t,rfl,hO⟩,hb⟩
 clear kO1
 obtain ⟨g0,g1,g2,g3,k0,k1,k2,k3,rfl⟩:=ownV_open hO hL
 have uX:S4.val ((some ⟨g0,0,none⟩,3,k0),(some ⟨g1,0,none⟩,4,k1),(some ⟨g2,0,none⟩,2,k2),(some ⟨g3,0,none⟩,6,k3))=.agg #[.slice (some ⟨g0,0,none⟩) 3 k0,.slice (some ⟨g1,0,none⟩) 4 k1,.slice (some ⟨g2,0,none⟩) 2 k2,.slice (some ⟨g3,0,none⟩) 6 k3]:=rfl
 rw [uX]
 clear uX
 replace hO:=hO.lower9 bw.size
 replace bw:=bel_trans bw hb
 replace pS:=pS.below hb
 replace pR:=pR.below hb
 replace pX:=pX.below hb
 clear hb
 go_wp2_with (refine wpList_store_blk rfl 33 _ _ rfl (w.heap.size+1) [.slice (some ⟨g0,0,none⟩) 3 k0,.slice (some ⟨g1,0,none⟩) 4 k1,.slice (some ⟨g2,0,none⟩) 2 k2,.slice (some ⟨g3,0,none⟩) 6 k3] rfl rfl pS (by kernel_rfl) rfl rfl ?_)
 intro w3 pS3 gr
 replace bw:=bw.grown gr bw.size (fun x hx=>by cases hx;omega)
 replace hO:=hO.kept9 gr pS (by decide)
 replace pR:=pR.kept gr (by simp)
 replace pX:=pX.kept gr (by simp;omega)
 clear gr pS
 have pS:=pS3.out
 clear pS3
 have neS0:=hO.1.1.ne9 pS (by decide)
 have neR0:=hO.1.1.ne9 pR (by decide)
 have neX0:=hO.1.1.ne9 pX (by decide)
 have neS1:=hO.1.2.1.ne9 pS (by decide)
 have neR1:=hO.1.2.1.ne9 pR (by decide)
 have neS2:=hO.1.2.2.1.ne9 pS (by decide)
 have neR2:=hO.1.2.2.1.ne9 pR (by decide)
 have neS3:=hO.1.2.2.2.ne9 pS (by decide)
 have neR3:=hO.1.2.2.2.ne9 pR (by decide)
 have lo0:=hO.1.1.lo9.1
 have s0:w3.cell? ⟨w.heap.size+1,0,none⟩=some (.slice (some ⟨g0,0,none⟩) 3 k0):=by simpa using pS.cell 0
 have y0:w3.cell? ⟨g0,k,none⟩=some (.int .i64 (p:Int)):=(hO.1.1.at9 hk).trans (congrArg (fun z=>some (Value.int .i64 z)) hpc)
 have fz0:=hO.1.1.frz9 k
 have hO3:=hO.set0 k ((p:Int)+1)
 have pS3:=pS.away9 (j:=k) (.int .i64 ((p:Int)+1)) neS0
 have pR3:=pR.away9 (j:=k) (.int .i64 ((p:Int)+1)) neR0
 have pX3:=pX.away9 (j:=k) (.int .i64 ((p:Int)+1)) neX0
 have b3:=bw.setCell (p:=⟨g0,k,none⟩) lo0 (.int .i64 ((p:Int)+1))
 have hpw:IntKind.i64.wrap ((p:Int)+1)=(p:Int)+1:=IntWalk.i64_in _ (by omega)
 have hkw:IntKind.i64.wrap ((k:Int)*2)=(k:Int)*2:=IntWalk.i64_in _ (by omega)
 clear hO pS pR pX bw neS0 neR0 neX0
 have v0:=pS3.cell 0
 have v1:=pS3.cell 1
 have v2:=pS3.cell 2
 have v3:=pS3.cell 3
 have u0:=pX3.cell 0
 have u1:=pX3.cell 1
 have u2:=pX3.cell 2
 simp only [List.getElem?_cons_zero,List.getElem?_cons_succ] at v0 v1 v2 v3 u0 u1 u2
 have hr6':(r:Int)<6:=by omega
 have hrw:IntKind.i64.wrap ((r:Int))=(r:Int):=IntWalk.i64_in _ (by omega)
 have r1:(w3.setCell ⟨g0,k,none⟩ (.int .i64 ((p:Int)+1))).cell? ⟨g3,r,none⟩=some (.int .i64 0):=(hO3.1.2.2.2.at9 hr6).trans (congrArg (fun z=>some (Value.int .i64 z)) hvv)
 have hO4:=hO3
 have pS4:=pS3
 have pR4:=pR3
 have b4:=b3
 clear hvv hO3 pS3 pR3 b3 pX3
 go_wp2_with (first | refine wpList_load_blk rfl 33 _ rfl (w.heap.size+1) rfl pS4 _ Tryz.underlying33 rfl (by kernel_rfl) ?_ | refine wpList_store_blk rfl 33 _ _ rfl (w.heap.size+1+1) [.slice (some ⟨g0,0,none⟩) 3 k0,.slice (some ⟨g1,0,none⟩) 4 k1,.slice (some ⟨g2,0,none⟩) 2 k2,.slice (some ⟨g3,0,none⟩) 6 k3] rfl rfl pR4 (by kernel_rfl) rfl rfl ?_)
 intro w9 pR9 gr9
 replace b4:=b4.grown gr9 b4.size (fun x hx=>by cases hx;omega)
 replace hO4:=hO4.kept9 gr9 pR4 (by decide)
 clear gr9 pR4 pS4
 go_wp2_with fail
 refine bodyPost_ret (results_blk2 Tryz.results99 _ _ _ _ _ _ rfl pR9.out Tryz.underlying33 rfl (by kernel_rfl)) rfl ?_
 exact ⟨VmGot.mk9 ((some ⟨g0,0,none⟩,3,k0),(some ⟨g1,0,none⟩,4,k1),(some ⟨g2,0,none⟩,2,k2),(some ⟨g3,0,none⟩,6,k3)) rfl hO4,b4⟩

theorem lstep_jump (b off len cap b0 o0 c0 b1 o1 c1 b2 o2 c2 b3 o3 c3 k cb co cn cc p:Nat) (a r:Nat) (z vv:Int) (m:V4) (w:World) (hk:k<3) (hlen:len=3) (hp:p<cn) (hp6:p≤6) (hs:shapeOk m=true) (hMm:Vmem w ((some ⟨b0,o0,none⟩,3,c0),(some ⟨b1,o1,none⟩,4,c1),(some ⟨b2,o2,none⟩,2,c2),(some ⟨b3,o3,none⟩,6,c3)) m) (hpc:m.1.getD k 0=p)
  (e0:w.cell? ⟨b,off+k,none⟩=some (.slice (some ⟨cb,co,none⟩) cn cc)) (e1:w.cell? ⟨b0,o0+k,none⟩=some (.int .i64 p)) (q0:w.cell? ⟨cb,co+p*3,none⟩=some (.int .i64 7)) (q1:w.cell? ⟨cb,co+p*3+1,none⟩=some (.int .i64 a)) (q2:w.cell? ⟨cb,co+p*3+2,none⟩=some (.int .i64 z)) (hr6:r<6) (hri:(k:Int)*2+(a:Int)=(r:Int)) (hvv:m.2.2.2.getD r 0=vv) (hv0:vv≠0) :
  Calls Tryz.prog 99 #[.agg #[.slice (some ⟨b,off,none⟩) len cap],.agg #[.slice (some ⟨b0,o0,none⟩) 3 c0,.slice (some ⟨b1,o1,none⟩) 4 c1,.slice (some ⟨b2,o2,none⟩) 2 c2,.slice (some ⟨b3,o3,none⟩) 6 c3],.int .i64 k] w fun e w'=>VmGot e w' w.heap.size (m.1.set k z,m.2) 0∧Below w.heap.size w w':=by
 have hL:=LenOk.of hs
 have kO:=fun (W:World) (hb:Below w.heap.size w W)=>l03Own_is ((some ⟨b0,o0,none⟩,3,c0),(some ⟨b1,o1,none⟩,4,c1),(some ⟨b2,o2,none⟩,2,c2),(some ⟨b3,o3,none⟩,6,c3)) m W (hMm.below hb) hs
 have uA:S4.val ((some ⟨b0,o0,none⟩,3,c0),(some ⟨b1,o1,none⟩,4,c1),(some ⟨b2,o2,none⟩,2,c2),(some ⟨b3,o3,none⟩,6,c3))=.agg #[.slice (some ⟨b0,o0,none⟩) 3 c0,.slice (some ⟨b1,o1,none⟩) 4 c1,.slice (some ⟨b2,o2,none⟩) 2 c2,.slice (some ⟨b3,o3,none⟩) 6 c3]:=rfl
 rw [uA] at kO
 clear uA
 have hk3:(k:Int)<3:=by omega
 have hkl:(k:Int)<(len:Int):=by omega
 have hpn:(p:Int)<(cn:Int):=by omega
 clear hlen
 have bw:Below w.heap.size w (((w.alloc (.cells #[.slice (some ⟨b,off,none⟩) len cap] 25)).alloc (.cells #[.slice (some ⟨b0,o0,none⟩) 3 c0,.slice (some ⟨b1,o1,none⟩) 4 c1,.slice (some ⟨b2,o2,none⟩) 2 c2,.slice (some ⟨b3,o3,none⟩) 6 c3] 33)).alloc (.cells #[.slice none 0 0,.slice none 0 0,.slice none 0 0,.slice none 0 0] 33)):=by go_grown
 have pP:Blk (((w.alloc (.cells #[.slice (some ⟨b,off,none⟩) len cap] 25)).alloc (.cells #[.slice (some ⟨b0,o0,none⟩) 3 c0,.slice (some ⟨b1,o1,none⟩) 4 c1,.slice (some ⟨b2,o2,none⟩) 2 c2,.slice (some ⟨b3,o3,none⟩) 6 c3] 33)).alloc (.cells #[.slice none 0 0,.slice none 0 0,.slice none 0 0,.slice none 0 0] 33)) w.heap.size 25 [.slice (some ⟨b,off,none⟩) len cap]:=blkOld _ (blkOld _ (blkAt _ _ _ rfl))
 have pS:Blk (((w.alloc (.cells #[.slice (some ⟨b,off,none⟩) len cap] 25)).alloc (.cells #[.slice (some ⟨b0,o0,none⟩) 3 c0,.slice (some ⟨b1,o1,none⟩) 4 c1,.slice (some ⟨b2,o2,none⟩) 2 c2,.slice (some ⟨b3,o3,none⟩) 6 c3] 33)).alloc (.cells #[.slice none 0 0,.slice none 0 0,.slice none 0 0,.slice none 0 0] 33)) (w.heap.size+1) 33 [.slice (some ⟨b0,o0,none⟩) 3 c0,.slice (some ⟨b1,o1,none⟩) 4 c1,.slice (some ⟨b2,o2,none⟩) 2 c2,.slice (some ⟨b3,o3,none⟩) 6 c3]:=blkOld _ (blkAt _ _ _ (by simp))
 have pR:Blk (((w.alloc (.cells #[.slice (some ⟨b,off,none⟩) len cap] 25)).alloc (.cells #[.slice (some ⟨b0,o0,none⟩) 3 c0,.slice (some ⟨b1,o1,none⟩) 4 c1,.slice (some ⟨b2,o2,none⟩) 2 c2,.slice (some ⟨b3,o3,none⟩) 6 c3] 33)).alloc (.cells #[.slice none 0 0,.slice none 0 0,.slice none 0 0,.slice none 0 0] 33)) (w.heap.size+1+1) 33 [.slice none 0 0,.slice none 0 0,.slice none 0 0,.slice none 0 0]:=blkAt _ _ _ (by simp)
 replace e0:=cells_kept bw _ _ e0
 replace e1:=cells_kept bw _ _ e1
 replace q0:=cells_kept bw _ _ q0
 replace q1:=cells_kept bw _ _ q1
 replace q2:=cells_kept bw _ _ q2
 go_enter Tryz.func99,Tryz.ntmps99
 go_wp2_with fail
 generalize (((w.alloc (.cells #[.slice (some ⟨b,off,none⟩) len cap] 25)).alloc (.cells #[.slice (some ⟨b0,o0,none⟩) 3 c0,.slice (some ⟨b1,o1,none⟩) 4 c1,.slice (some ⟨b2,o2,none⟩) 2 c2,.slice (some ⟨b3,o3,none⟩) 6 c3] 33)).alloc (.cells #[.slice none 0 0,.slice none 0 0,.slice none 0 0,.slice none 0 0] 33))=W0 at *
 have d0:=pP.cell 0
 have d1:=pS.cell 0
 simp only [List.getElem?_cons_zero] at d0 d1
 refine wp_region_held_drew (S:=(fun w'=>w'.cell? ⟨w.heap.size,0,none⟩=some (.slice (some ⟨b,off,none⟩) len cap)∧w'.cell? ⟨w.heap.size+1,0,none⟩=some (.slice (some ⟨b0,o0,none⟩) 3 c0)∧w'.cell? ⟨b,off+k,none⟩=some (.slice (some ⟨cb,co,none⟩) cn cc)∧w'.cell? ⟨b0,o0+k,none⟩=some (.int .i64 p)∧w'.cell? ⟨cb,co+p*3,none⟩=some (.int .i64 7)∧w'.cell? ⟨cb,co+p*3+1,none⟩=some (.int .i64 a)∧w'.cell? ⟨cb,co+p*3+2,none⟩=some (.int .i64 z))) (by kernel_rfl) ⟨d0,d1,e0,e1,q0,q1,q2⟩ (fun hS0=>?_)
 refine tkm 0 10 (.pointer (some ⟨w.heap.size,0,none⟩)) ?_
 refine tkm 1 11 (.slice (some ⟨b,off,none⟩) len cap) ?_
 refine tkm 2 12 (.int .i64 k) ?_
 refine tkm 3 13 (.pointer (some ⟨b,off+k,none⟩)) ?_
 refine tkm 4 14 (.slice (some ⟨cb,co,none⟩) cn cc) ?_
 refine tkm 5 15 (.pointer (some ⟨w.heap.size+1,0,none⟩)) ?_
 refine tkm 6 16 (.slice (some ⟨b0,o0,none⟩) 3 c0) ?_
 refine tkm 7 17 (.int .i64 k) ?_
 refine tkm 8 18 (.pointer (some ⟨b0,o0+k,none⟩)) ?_
 refine tkm 9 19 (.int .i64 p) ?_
 refine tkm 10 20 (.pointer (some ⟨cb,co+p*3,none⟩)) ?_
 refine tkm 11 21 (.agg #[.int .i64 7,.int .i64 a,.int .i64 z]) ?_
 refine tkr 12 8 (fun K hK=>?_)
 have hal:Below W0.drew.heap.size W0.drew (W0.drew.alloc (.cells #[.int .i64 0,.int .i64 0,.int .i64 0] 159)):=by go_grown
 go_simp
 refine hK.out _ _ ?_ (fun hS1=>?_)
 ·exact ⟨cells_kept hal _ _ hS0.1,cells_kept hal _ _ hS0.2.1,cells_kept hal _ _ hS0.2.2.1,cells_kept hal _ _ hS0.2.2.2.1,cells_kept hal _ _ hS0.2.2.2.2.1,cells_kept hal _ _ hS0.2.2.2.2.2.1,cells_kept hal _ _ hS0.2.2.2.2.2.2⟩
 clear hK
 try simp only [Act.put,tka,tkb,tkc]
 refine tkz 13 (fun K hK=>?_)
 have hal2:Below W0.drew.heap.size W0.drew (W0.drew.alloc (.cells #[.int .i64 7,.int .i64 a,.int .i64 z] 159)):=by go_grown
 go_simp
 refine hK.out _ _ ?_ (fun hS2=>?_)
 ·exact ⟨cells_kept hal2 _ _ hS0.1,cells_kept hal2 _ _ hS0.2.1,cells_kept hal2 _ _ hS0.2.2.1,cells_kept hal2 _ _ hS0.2.2.2.1,cells_kept hal2 _ _ hS0.2.2.2.2.1,cells_kept hal2 _ _ hS0.2.2.2.2.2.1,cells_kept hal2 _ _ hS0.2.2.2.2.2.2⟩
 clear hK
 try simp only [Act.put,tka,tkb,tkc]
 refine wpAnyH_done (by kernel_rfl) ?_ _
 clear hal hal2 hS0 hS1 hS2 e0 e1 q0 q1 q2 d0 d1
 have bx:Below W0.heap.size W0 (W0.alloc (.cells #[.int .i64 7,.int .i64 a,.int .i64 z] 159)).drew:=by go_grown
 have pX:Blk (W0.alloc (.cells #[.int .i64 7,.int .i64 a,.int .i64 z] 159)).drew W0.heap.size 159 [.int .i64 7,.int .i64 a,.int .i64 z]:=Blk.new W0 159 [.int .i64 7,.int .i64 a,.int .i64 z]
 have hgX:=pR.lt
 replace bw:=bel_trans bw bx
 replace pS:=pS.below bx
 replace pR:=pR.below bx
 clear bx pP
 generalize (W0.alloc (.cells #[.int .i64 7,.int .i64 a,.int .i64 z] 159)).drew=W1 at *
 generalize W0.heap.size=gX at *
 have kO1:=kO W1 bw
 clear kO
 go_wp2_with (refine wpList_load_blk rfl 33 _ rfl (w.heap.size+1) rfl pS _ Tryz.underlying33 rfl (by kernel_rfl) ?_)
 refine kO1.mono ?_
 rintro e w2 ⟨⟨t,rfl,hO⟩,hb⟩
 clear kO1
 obtain ⟨g0,g1,g2,g3,k0,k1,k2,k3,rfl⟩:=ownV_open hO hL
 have uX:S4.val ((some ⟨g0,0,none⟩,3,k0),(some ⟨g1,0,none⟩,4,k1),(some ⟨g2,0,none⟩,2,k2),(some ⟨g3,0,none⟩,6,k3))=.agg #[.slice (some ⟨g0,0,none⟩) 3 k0,.slice (some ⟨g1,0,none⟩) 4 k1,.slice (some ⟨g2,0,none⟩) 2 k2,.slice (some ⟨g3,0,none⟩) 6 k3]:=rfl
 rw [uX]
 clear uX
 replace hO:=hO.lower9 bw.size
 replace bw:=bel_trans bw hb
 replace pS:=pS.below hb
 replace pR:=pR.below hb
 replace pX:=pX.below hb
 clear hb
 go_wp2_with (refine wpList_store_blk rfl 33 _ _ rfl (w.heap.size+1) [.slice (some ⟨g0,0,none⟩) 3 k0,.slice (some ⟨g1,0,none⟩) 4 k1,.slice (some ⟨g2,0,none⟩) 2 k2,.slice (some ⟨g3,0,none⟩) 6 k3] rfl rfl pS (by kernel_rfl) rfl rfl ?_)
 intro w3 pS3 gr
 replace bw:=bw.grown gr bw.size (fun x hx=>by cases hx;omega)
 replace hO:=hO.kept9 gr pS (by decide)
 replace pR:=pR.kept gr (by simp)
 replace pX:=pX.kept gr (by simp;omega)
 clear gr pS
 have pS:=pS3.out
 clear pS3
 have neS0:=hO.1.1.ne9 pS (by decide)
 have neR0:=hO.1.1.ne9 pR (by decide)
 have neX0:=hO.1.1.ne9 pX (by decide)
 have neS1:=hO.1.2.1.ne9 pS (by decide)
 have neR1:=hO.1.2.1.ne9 pR (by decide)
 have neS2:=hO.1.2.2.1.ne9 pS (by decide)
 have neR2:=hO.1.2.2.1.ne9 pR (by decide)
 have neS3:=hO.1.2.2.2.ne9 pS (by decide)
 have neR3:=hO.1.2.2.2.ne9 pR (by decide)
 have lo0:=hO.1.1.lo9.1
 have s0:w3.cell? ⟨w.heap.size+1,0,none⟩=some (.slice (some ⟨g0,0,none⟩) 3 k0):=by simpa using pS.cell 0
 have y0:w3.cell? ⟨g0,k,none⟩=some (.int .i64 (p:Int)):=(hO.1.1.at9 hk).trans (congrArg (fun z=>some (Value.int .i64 z)) hpc)
 have fz0:=hO.1.1.frz9 k
 have hO3:=hO.set0 k ((p:Int)+1)
 have pS3:=pS.away9 (j:=k) (.int .i64 ((p:Int)+1)) neS0
 have pR3:=pR.away9 (j:=k) (.int .i64 ((p:Int)+1)) neR0
 have pX3:=pX.away9 (j:=k) (.int .i64 ((p:Int)+1)) neX0
 have b3:=bw.setCell (p:=⟨g0,k,none⟩) lo0 (.int .i64 ((p:Int)+1))
 have hpw:IntKind.i64.wrap ((p:Int)+1)=(p:Int)+1:=IntWalk.i64_in _ (by omega)
 have hkw:IntKind.i64.wrap ((k:Int)*2)=(k:Int)*2:=IntWalk.i64_in _ (by omega)
 clear hO pS pR pX bw neS0 neR0 neX0
 have v0:=pS3.cell 0
 have v1:=pS3.cell 1
 have v2:=pS3.cell 2
 have v3:=pS3.cell 3
 have u0:=pX3.cell 0
 have u1:=pX3.cell 1
 have u2:=pX3.cell 2
 simp only [List.getElem?_cons_zero,List.getElem?_cons_succ] at v0 v1 v2 v3 u0 u1 u2
 have hr6':(r:Int)<6:=by omega
 have hrw:IntKind.i64.wrap ((r:Int))=(r:Int):=IntWalk.i64_in _ (by omega)
 have r1:(w3.setCell ⟨g0,k,none⟩ (.int .i64 ((p:Int)+1))).cell? ⟨g3,r,none⟩=some (.int .i64 vv):=(hO3.1.2.2.2.at9 hr6).trans (congrArg (fun z=>some (Value.int .i64 z)) hvv)
 have hn0:(vv != 0)=true:=by simp [hv0]
 have neS0:=hO3.1.1.ne9 pS3 (by decide)
 have neR0:=hO3.1.1.ne9 pR3 (by decide)
 obtain ⟨old,w0⟩:∃ u,(w3.setCell ⟨g0,k,none⟩ (.int .i64 ((p:Int)+1))).cell? ⟨g0,k,none⟩=some u:=⟨_,hO3.1.1.at9 hk⟩
 have wf:=hO3.1.1.frz9 k
 have lo4:=hO3.1.1.lo9.1
 have hO4:=hO3.set0 k z
 have pS4:=pS3.away9 (X:=g0) (j:=k) (.int .i64 z) neS0
 have pR4:=pR3.away9 (X:=g0) (j:=k) (.int .i64 z) neR0
 have b4:=b3.setCell (p:=⟨g0,k,none⟩) lo4 (.int .i64 z)
 simp only at hO4
 simp only [List.set_set] at hO4
 clear hvv hO3 pS3 pR3 b3 pX3
 go_wp2_with (first | refine wpList_load_blk rfl 33 _ rfl (w.heap.size+1) rfl pS4 _ Tryz.underlying33 rfl (by kernel_rfl) ?_ | refine wpList_store_blk rfl 33 _ _ rfl (w.heap.size+1+1) [.slice (some ⟨g0,0,none⟩) 3 k0,.slice (some ⟨g1,0,none⟩) 4 k1,.slice (some ⟨g2,0,none⟩) 2 k2,.slice (some ⟨g3,0,none⟩) 6 k3] rfl rfl pR4 (by kernel_rfl) rfl rfl ?_)
 intro w9 pR9 gr9
 replace b4:=b4.grown gr9 b4.size (fun x hx=>by cases hx;omega)
 replace hO4:=hO4.kept9 gr9 pR4 (by decide)
 clear gr9 pR4 pS4
 go_wp2_with fail
 refine bodyPost_ret (results_blk2 Tryz.results99 _ _ _ _ _ _ rfl pR9.out Tryz.underlying33 rfl (by kernel_rfl)) rfl ?_
 exact ⟨VmGot.mk9 ((some ⟨g0,0,none⟩,3,k0),(some ⟨g1,0,none⟩,4,k1),(some ⟨g2,0,none⟩,2,k2),(some ⟨g3,0,none⟩,6,k3)) rfl hO4,b4⟩

theorem lstep_assert_yes (b off len cap b0 o0 c0 b1 o1 c1 b2 o2 c2 b3 o3 c3 k cb co cn cc p:Nat) (a r:Nat) (z:Int) (m:V4) (w:World) (hk:k<3) (hlen:len=3) (hp:p<cn) (hp6:p≤6) (hs:shapeOk m=true) (hMm:Vmem w ((some ⟨b0,o0,none⟩,3,c0),(some ⟨b1,o1,none⟩,4,c1),(some ⟨b2,o2,none⟩,2,c2),(some ⟨b3,o3,none⟩,6,c3)) m) (hpc:m.1.getD k 0=p)
  (e0:w.cell? ⟨b,off+k,none⟩=some (.slice (some ⟨cb,co,none⟩) cn cc)) (e1:w.cell? ⟨b0,o0+k,none⟩=some (.int .i64 p)) (q0:w.cell? ⟨cb,co+p*3,none⟩=some (.int .i64 8)) (q1:w.cell? ⟨cb,co+p*3+1,none⟩=some (.int .i64 a)) (q2:w.cell? ⟨cb,co+p*3+2,none⟩=some (.int .i64 z)) (hr6:r<6) (hri:(k:Int)*2+(a:Int)=(r:Int)) (hvv:m.2.2.2.getD r 0=z) :
  Calls Tryz.prog 99 #[.agg #[.slice (some ⟨b,off,none⟩) len cap],.agg #[.slice (some ⟨b0,o0,none⟩) 3 c0,.slice (some ⟨b1,o1,none⟩) 4 c1,.slice (some ⟨b2,o2,none⟩) 2 c2,.slice (some ⟨b3,o3,none⟩) 6 c3],.int .i64 k] w fun e w'=>VmGot e w' w.heap.size (m.1.set k ((p:Int)+1),m.2) 0∧Below w.heap.size w w':=by
 have hL:=LenOk.of hs
 have kO:=fun (W:World) (hb:Below w.heap.size w W)=>l03Own_is ((some ⟨b0,o0,none⟩,3,c0),(some ⟨b1,o1,none⟩,4,c1),(some ⟨b2,o2,none⟩,2,c2),(some ⟨b3,o3,none⟩,6,c3)) m W (hMm.below hb) hs
 have uA:S4.val ((some ⟨b0,o0,none⟩,3,c0),(some ⟨b1,o1,none⟩,4,c1),(some ⟨b2,o2,none⟩,2,c2),(some ⟨b3,o3,none⟩,6,c3))=.agg #[.slice (some ⟨b0,o0,none⟩) 3 c0,.slice (some ⟨b1,o1,none⟩) 4 c1,.slice (some ⟨b2,o2,none⟩) 2 c2,.slice (some ⟨b3,o3,none⟩) 6 c3]:=rfl
 rw [uA] at kO
 clear uA
 have hk3:(k:Int)<3:=by omega
 have hkl:(k:Int)<(len:Int):=by omega
 have hpn:(p:Int)<(cn:Int):=by omega
 clear hlen
 have bw:Below w.heap.size w (((w.alloc (.cells #[.slice (some ⟨b,off,none⟩) len cap] 25)).alloc (.cells #[.slice (some ⟨b0,o0,none⟩) 3 c0,.slice (some ⟨b1,o1,none⟩) 4 c1,.slice (some ⟨b2,o2,none⟩) 2 c2,.slice (some ⟨b3,o3,none⟩) 6 c3] 33)).alloc (.cells #[.slice none 0 0,.slice none 0 0,.slice none 0 0,.slice none 0 0] 33)):=by go_grown
 have pP:Blk (((w.alloc (.cells #[.slice (some ⟨b,off,none⟩) len cap] 25)).alloc (.cells #[.slice (some ⟨b0,o0,none⟩) 3 c0,.slice (some ⟨b1,o1,none⟩) 4 c1,.slice (some ⟨b2,o2,none⟩) 2 c2,.slice (some ⟨b3,o3,none⟩) 6 c3] 33)).alloc (.cells #[.slice none 0 0,.slice none 0 0,.slice none 0 0,.slice none 0 0] 33)) w.heap.size 25 [.slice (some ⟨b,off,none⟩) len cap]:=blkOld _ (blkOld _ (blkAt _ _ _ rfl))
 have pS:Blk (((w.alloc (.cells #[.slice (some ⟨b,off,none⟩) len cap] 25)).alloc (.cells #[.slice (some ⟨b0,o0,none⟩) 3 c0,.slice (some ⟨b1,o1,none⟩) 4 c1,.slice (some ⟨b2,o2,none⟩) 2 c2,.slice (some ⟨b3,o3,none⟩) 6 c3] 33)).alloc (.cells #[.slice none 0 0,.slice none 0 0,.slice none 0 0,.slice none 0 0] 33)) (w.heap.size+1) 33 [.slice (some ⟨b0,o0,none⟩) 3 c0,.slice (some ⟨b1,o1,none⟩) 4 c1,.slice (some ⟨b2,o2,none⟩) 2 c2,.slice (some ⟨b3,o3,none⟩) 6 c3]:=blkOld _ (blkAt _ _ _ (by simp))
 have pR:Blk (((w.alloc (.cells #[.slice (some ⟨b,off,none⟩) len cap] 25)).alloc (.cells #[.slice (some ⟨b0,o0,none⟩) 3 c0,.slice (some ⟨b1,o1,none⟩) 4 c1,.slice (some ⟨b2,o2,none⟩) 2 c2,.slice (some ⟨b3,o3,none⟩) 6 c3] 33)).alloc (.cells #[.slice none 0 0,.slice none 0 0,.slice none 0 0,.slice none 0 0] 33)) (w.heap.size+1+1) 33 [.slice none 0 0,.slice none 0 0,.slice none 0 0,.slice none 0 0]:=blkAt _ _ _ (by simp)
 replace e0:=cells_kept bw _ _ e0
 replace e1:=cells_kept bw _ _ e1
 replace q0:=cells_kept bw _ _ q0
 replace q1:=cells_kept bw _ _ q1
 replace q2:=cells_kept bw _ _ q2
 go_enter Tryz.func99,Tryz.ntmps99
 go_wp2_with fail
 generalize (((w.alloc (.cells #[.slice (some ⟨b,off,none⟩) len cap] 25)).alloc (.cells #[.slice (some ⟨b0,o0,none⟩) 3 c0,.slice (some ⟨b1,o1,none⟩) 4 c1,.slice (some ⟨b2,o2,none⟩) 2 c2,.slice (some ⟨b3,o3,none⟩) 6 c3] 33)).alloc (.cells #[.slice none 0 0,.slice none 0 0,.slice none 0 0,.slice none 0 0] 33))=W0 at *
 have d0:=pP.cell 0
 have d1:=pS.cell 0
 simp only [List.getElem?_cons_zero] at d0 d1
 refine wp_region_held_drew (S:=(fun w'=>w'.cell? ⟨w.heap.size,0,none⟩=some (.slice (some ⟨b,off,none⟩) len cap)∧w'.cell? ⟨w.heap.size+1,0,none⟩=some (.slice (some ⟨b0,o0,none⟩) 3 c0)∧w'.cell? ⟨b,off+k,none⟩=some (.slice (some ⟨cb,co,none⟩) cn cc)∧w'.cell? ⟨b0,o0+k,none⟩=some (.int .i64 p)∧w'.cell? ⟨cb,co+p*3,none⟩=some (.int .i64 8)∧w'.cell? ⟨cb,co+p*3+1,none⟩=some (.int .i64 a)∧w'.cell? ⟨cb,co+p*3+2,none⟩=some (.int .i64 z))) (by kernel_rfl) ⟨d0,d1,e0,e1,q0,q1,q2⟩ (fun hS0=>?_)
 refine tkm 0 10 (.pointer (some ⟨w.heap.size,0,none⟩)) ?_
 refine tkm 1 11 (.slice (some ⟨b,off,none⟩) len cap) ?_
 refine tkm 2 12 (.int .i64 k) ?_
 refine tkm 3 13 (.pointer (some ⟨b,off+k,none⟩)) ?_
 refine tkm 4 14 (.slice (some ⟨cb,co,none⟩) cn cc) ?_
 refine tkm 5 15 (.pointer (some ⟨w.heap.size+1,0,none⟩)) ?_
 refine tkm 6 16 (.slice (some ⟨b0,o0,none⟩) 3 c0) ?_
 refine tkm 7 17 (.int .i64 k) ?_
 refine tkm 8 18 (.pointer (some ⟨b0,o0+k,none⟩)) ?_
 refine tkm 9 19 (.int .i64 p) ?_
 refine tkm 10 20 (.pointer (some ⟨cb,co+p*3,none⟩)) ?_
 refine tkm 11 21 (.agg #[.int .i64 8,.int .i64 a,.int .i64 z]) ?_
 refine tkr 12 8 (fun K hK=>?_)
 have hal:Below W0.drew.heap.size W0.drew (W0.drew.alloc (.cells #[.int .i64 0,.int .i64 0,.int .i64 0] 159)):=by go_grown
 go_simp
 refine hK.out _ _ ?_ (fun hS1=>?_)
 ·exact ⟨cells_kept hal _ _ hS0.1,cells_kept hal _ _ hS0.2.1,cells_kept hal _ _ hS0.2.2.1,cells_kept hal _ _ hS0.2.2.2.1,cells_kept hal _ _ hS0.2.2.2.2.1,cells_kept hal _ _ hS0.2.2.2.2.2.1,cells_kept hal _ _ hS0.2.2.2.2.2.2⟩
 clear hK
 try simp only [Act.put,tka,tkb,tkc]
 refine tkz 13 (fun K hK=>?_)
 have hal2:Below W0.drew.heap.size W0.drew (W0.drew.alloc (.cells #[.int .i64 8,.int .i64 a,.int .i64 z] 159)):=by go_grown
 go_simp
 refine hK.out _ _ ?_ (fun hS2=>?_)
 ·exact ⟨cells_kept hal2 _ _ hS0.1,cells_kept hal2 _ _ hS0.2.1,cells_kept hal2 _ _ hS0.2.2.1,cells_kept hal2 _ _ hS0.2.2.2.1,cells_kept hal2 _ _ hS0.2.2.2.2.1,cells_kept hal2 _ _ hS0.2.2.2.2.2.1,cells_kept hal2 _ _ hS0.2.2.2.2.2.2⟩
 clear hK
 try simp only [Act.put,tka,tkb,tkc]
 refine wpAnyH_done (by kernel_rfl) ?_ _
 clear hal hal2 hS0 hS1 hS2 e0 e1 q0 q1 q2 d0 d1
 have bx:Below W0.heap.size W0 (W0.alloc (.cells #[.int .i64 8,.int .i64 a,.int .i64 z] 159)).drew:=by go_grown
 have pX:Blk (W0.alloc (.cells #[.int .i64 8,.int .i64 a,.int .i64 z] 159)).drew W0.heap.size 159 [.int .i64 8,.int .i64 a,.int .i64 z]:=Blk.new W0 159 [.int .i64 8,.int .i64 a,.int .i64 z]
 have hgX:=pR.lt
 replace bw:=bel_trans bw bx
 replace pS:=pS.below bx
 replace pR:=pR.below bx
 clear bx pP
 generalize (W0.alloc (.cells #[.int .i64 8,.int .i64 a,.int .i64 z] 159)).drew=W1 at *
 generalize W0.heap.size=gX at *
 have kO1:=kO W1 bw
 clear kO
 go_wp2_with (refine wpList_load_blk rfl 33 _ rfl (w.heap.size+1) rfl pS _ Tryz.underlying33 rfl (by kernel_rfl) ?_)
 refine kO1.mono ?_
 rintro e w2 ⟨⟨t,rfl,hO⟩,hb⟩
 clear kO1
 obtain ⟨g0,g1,g2,g3,k0,k1,k2,k3,rfl⟩:=ownV_open hO hL
 have uX:S4.val ((some ⟨g0,0,none⟩,3,k0),(some ⟨g1,0,none⟩,4,k1),(some ⟨g2,0,none⟩,2,k2),(some ⟨g3,0,none⟩,6,k3))=.agg #[.slice (some ⟨g0,0,none⟩) 3 k0,.slice (some ⟨g1,0,none⟩) 4 k1,.slice (some ⟨g2,0,none⟩) 2 k2,.slice (some ⟨g3,0,none⟩) 6 k3]:=rfl
 rw [uX]
 clear uX
 replace hO:=hO.lower9 bw.size
 replace bw:=bel_trans bw hb
 replace pS:=pS.below hb
 replace pR:=pR.below hb
 replace pX:=pX.below hb
 clear hb
 go_wp2_with (refine wpList_store_blk rfl 33 _ _ rfl (w.heap.size+1) [.slice (some ⟨g0,0,none⟩) 3 k0,.slice (some ⟨g1,0,none⟩) 4 k1,.slice (some ⟨g2,0,none⟩) 2 k2,.slice (some ⟨g3,0,none⟩) 6 k3] rfl rfl pS (by kernel_rfl) rfl rfl ?_)
 intro w3 pS3 gr
 replace bw:=bw.grown gr bw.size (fun x hx=>by cases hx;omega)
 replace hO:=hO.kept9 gr pS (by decide)
 replace pR:=pR.kept gr (by simp)
 replace pX:=pX.kept gr (by simp;omega)
 clear gr pS
 have pS:=pS3.out
 clear pS3
 have neS0:=hO.1.1.ne9 pS (by decide)
 have neR0:=hO.1.1.ne9 pR (by decide)
 have neX0:=hO.1.1.ne9 pX (by decide)
 have neS1:=hO.1.2.1.ne9 pS (by decide)
 have neR1:=hO.1.2.1.ne9 pR (by decide)
 have neS2:=hO.1.2.2.1.ne9 pS (by decide)
 have neR2:=hO.1.2.2.1.ne9 pR (by decide)
 have neS3:=hO.1.2.2.2.ne9 pS (by decide)
 have neR3:=hO.1.2.2.2.ne9 pR (by decide)
 have lo0:=hO.1.1.lo9.1
 have s0:w3.cell? ⟨w.heap.size+1,0,none⟩=some (.slice (some ⟨g0,0,none⟩) 3 k0):=by simpa using pS.cell 0
 have y0:w3.cell? ⟨g0,k,none⟩=some (.int .i64 (p:Int)):=(hO.1.1.at9 hk).trans (congrArg (fun z=>some (Value.int .i64 z)) hpc)
 have fz0:=hO.1.1.frz9 k
 have hO3:=hO.set0 k ((p:Int)+1)
 have pS3:=pS.away9 (j:=k) (.int .i64 ((p:Int)+1)) neS0
 have pR3:=pR.away9 (j:=k) (.int .i64 ((p:Int)+1)) neR0
 have pX3:=pX.away9 (j:=k) (.int .i64 ((p:Int)+1)) neX0
 have b3:=bw.setCell (p:=⟨g0,k,none⟩) lo0 (.int .i64 ((p:Int)+1))
 have hpw:IntKind.i64.wrap ((p:Int)+1)=(p:Int)+1:=IntWalk.i64_in _ (by omega)
 have hkw:IntKind.i64.wrap ((k:Int)*2)=(k:Int)*2:=IntWalk.i64_in _ (by omega)
 clear hO pS pR pX bw neS0 neR0 neX0
 have v0:=pS3.cell 0
 have v1:=pS3.cell 1
 have v2:=pS3.cell 2
 have v3:=pS3.cell 3
 have u0:=pX3.cell 0
 have u1:=pX3.cell 1
 have u2:=pX3.cell 2
 simp only [List.getElem?_cons_zero,List.getElem?_cons_succ] at v0 v1 v2 v3 u0 u1 u2
 have hr6':(r:Int)<6:=by omega
 have hrw:IntKind.i64.wrap ((r:Int))=(r:Int):=IntWalk.i64_in _ (by omega)
 have r1:(w3.setCell ⟨g0,k,none⟩ (.int .i64 ((p:Int)+1))).cell? ⟨g3,r,none⟩=some (.int .i64 z):=(hO3.1.2.2.2.at9 hr6).trans (congrArg (fun z=>some (Value.int .i64 z)) hvv)
 have hn0:(z != z)=false:=by simp
 clear hvv pX3
 go_wp2_with fail
 generalize (w3.setCell ⟨g0,k,none⟩ (.int .i64 ((p:Int)+1)))=W3 at *
 go_quiet (fail)
 have hO4:OwnV (W3.drewN nq) w.heap.size ((some ⟨g0,0,none⟩,3,k0),(some ⟨g1,0,none⟩,4,k1),(some ⟨g2,0,none⟩,2,k2),(some ⟨g3,0,none⟩,6,k3)) _:=hO3
 have pS4:Blk (W3.drewN nq) (w.heap.size+1) 33 [.slice (some ⟨g0,0,none⟩) 3 k0,.slice (some ⟨g1,0,none⟩) 4 k1,.slice (some ⟨g2,0,none⟩) 2 k2,.slice (some ⟨g3,0,none⟩) 6 k3]:=pS3
 have pR4:Blk (W3.drewN nq) (w.heap.size+1+1) 33 [.slice none 0 0,.slice none 0 0,.slice none 0 0,.slice none 0 0]:=pR3
 have b4:Below w.heap.size w (W3.drewN nq):=bel_trans b3 (below_dN _)
 clear hO3 pS3 pR3 b3 v0 v1 v2 v3 u0 u1 u2 s0 y0 fz0
 generalize W3.drewN nq=W4 at *
 go_wp2_with (first | refine wpList_load_blk rfl 33 _ rfl (w.heap.size+1) rfl pS4 _ Tryz.underlying33 rfl (by kernel_rfl) ?_ | refine wpList_store_blk rfl 33 _ _ rfl (w.heap.size+1+1) [.slice (some ⟨g0,0,none⟩) 3 k0,.slice (some ⟨g1,0,none⟩) 4 k1,.slice (some ⟨g2,0,none⟩) 2 k2,.slice (some ⟨g3,0,none⟩) 6 k3] rfl rfl pR4 (by kernel_rfl) rfl rfl ?_)
 intro w9 pR9 gr9
 replace b4:=b4.grown gr9 b4.size (fun x hx=>by cases hx;omega)
 replace hO4:=hO4.kept9 gr9 pR4 (by decide)
 clear gr9 pR4 pS4
 go_wp2_with fail
 refine bodyPost_ret (results_blk2 Tryz.results99 _ _ _ _ _ _ rfl pR9.out Tryz.underlying33 rfl (by kernel_rfl)) rfl ?_
 exact ⟨VmGot.mk9 ((some ⟨g0,0,none⟩,3,k0),(some ⟨g1,0,none⟩,4,k1),(some ⟨g2,0,none⟩,2,k2),(some ⟨g3,0,none⟩,6,k3)) rfl hO4,b4⟩

theorem lstep_assert_no (b off len cap b0 o0 c0 b1 o1 c1 b2 o2 c2 b3 o3 c3 k cb co cn cc p:Nat) (a r:Nat) (z vv:Int) (m:V4) (w:World) (hk:k<3) (hlen:len=3) (hp:p<cn) (hp6:p≤6) (hs:shapeOk m=true) (hMm:Vmem w ((some ⟨b0,o0,none⟩,3,c0),(some ⟨b1,o1,none⟩,4,c1),(some ⟨b2,o2,none⟩,2,c2),(some ⟨b3,o3,none⟩,6,c3)) m) (hpc:m.1.getD k 0=p)
  (e0:w.cell? ⟨b,off+k,none⟩=some (.slice (some ⟨cb,co,none⟩) cn cc)) (e1:w.cell? ⟨b0,o0+k,none⟩=some (.int .i64 p)) (q0:w.cell? ⟨cb,co+p*3,none⟩=some (.int .i64 8)) (q1:w.cell? ⟨cb,co+p*3+1,none⟩=some (.int .i64 a)) (q2:w.cell? ⟨cb,co+p*3+2,none⟩=some (.int .i64 z)) (hr6:r<6) (hri:(k:Int)*2+(a:Int)=(r:Int)) (hvv:m.2.2.2.getD r 0=vv) (hv0:vv≠z) :
  Calls Tryz.prog 99 #[.agg #[.slice (some ⟨b,off,none⟩) len cap],.agg #[.slice (some ⟨b0,o0,none⟩) 3 c0,.slice (some ⟨b1,o1,none⟩) 4 c1,.slice (some ⟨b2,o2,none⟩) 2 c2,.slice (some ⟨b3,o3,none⟩) 6 c3],.int .i64 k] w fun e w'=>VmGot e w' w.heap.size (m.1.set k ((p:Int)+1),m.2) 12∧Below w.heap.size w w':=by
 have hL:=LenOk.of hs
 have kO:=fun (W:World) (hb:Below w.heap.size w W)=>l03Own_is ((some ⟨b0,o0,none⟩,3,c0),(some ⟨b1,o1,none⟩,4,c1),(some ⟨b2,o2,none⟩,2,c2),(some ⟨b3,o3,none⟩,6,c3)) m W (hMm.below hb) hs
 have uA:S4.val ((some ⟨b0,o0,none⟩,3,c0),(some ⟨b1,o1,none⟩,4,c1),(some ⟨b2,o2,none⟩,2,c2),(some ⟨b3,o3,none⟩,6,c3))=.agg #[.slice (some ⟨b0,o0,none⟩) 3 c0,.slice (some ⟨b1,o1,none⟩) 4 c1,.slice (some ⟨b2,o2,none⟩) 2 c2,.slice (some ⟨b3,o3,none⟩) 6 c3]:=rfl
 rw [uA] at kO
 clear uA
 have hk3:(k:Int)<3:=by omega
 have hkl:(k:Int)<(len:Int):=by omega
 have hpn:(p:Int)<(cn:Int):=by omega
 clear hlen
 have bw:Below w.heap.size w (((w.alloc (.cells #[.slice (some ⟨b,off,none⟩) len cap] 25)).alloc (.cells #[.slice (some ⟨b0,o0,none⟩) 3 c0,.slice (some ⟨b1,o1,none⟩) 4 c1,.slice (some ⟨b2,o2,none⟩) 2 c2,.slice (some ⟨b3,o3,none⟩) 6 c3] 33)).alloc (.cells #[.slice none 0 0,.slice none 0 0,.slice none 0 0,.slice none 0 0] 33)):=by go_grown
 have pP:Blk (((w.alloc (.cells #[.slice (some ⟨b,off,none⟩) len cap] 25)).alloc (.cells #[.slice (some ⟨b0,o0,none⟩) 3 c0,.slice (some ⟨b1,o1,none⟩) 4 c1,.slice (some ⟨b2,o2,none⟩) 2 c2,.slice (some ⟨b3,o3,none⟩) 6 c3] 33)).alloc (.cells #[.slice none 0 0,.slice none 0 0,.slice none 0 0,.slice none 0 0] 33)) w.heap.size 25 [.slice (some ⟨b,off,none⟩) len cap]:=blkOld _ (blkOld _ (blkAt _ _ _ rfl))
 have pS:Blk (((w.alloc (.cells #[.slice (some ⟨b,off,none⟩) len cap] 25)).alloc (.cells #[.slice (some ⟨b0,o0,none⟩) 3 c0,.slice (some ⟨b1,o1,none⟩) 4 c1,.slice (some ⟨b2,o2,none⟩) 2 c2,.slice (some ⟨b3,o3,none⟩) 6 c3] 33)).alloc (.cells #[.slice none 0 0,.slice none 0 0,.slice none 0 0,.slice none 0 0] 33)) (w.heap.size+1) 33 [.slice (some ⟨b0,o0,none⟩) 3 c0,.slice (some ⟨b1,o1,none⟩) 4 c1,.slice (some ⟨b2,o2,none⟩) 2 c2,.slice (some ⟨b3,o3,none⟩) 6 c3]:=blkOld _ (blkAt _ _ _ (by simp))
 have pR:Blk (((w.alloc (.cells #[.slice (some ⟨b,off,none⟩) len cap] 25)).alloc (.cells #[.slice (some ⟨b0,o0,none⟩) 3 c0,.slice (some ⟨b1,o1,none⟩) 4 c1,.slice (some ⟨b2,o2,none⟩) 2 c2,.slice (some ⟨b3,o3,none⟩) 6 c3] 33)).alloc (.cells #[.slice none 0 0,.slice none 0 0,.slice none 0 0,.slice none 0 0] 33)) (w.heap.size+1+1) 33 [.slice none 0 0,.slice none 0 0,.slice none 0 0,.slice none 0 0]:=blkAt _ _ _ (by simp)
 replace e0:=cells_kept bw _ _ e0
 replace e1:=cells_kept bw _ _ e1
 replace q0:=cells_kept bw _ _ q0
 replace q1:=cells_kept bw _ _ q1
 replace q2:=cells_kept bw _ _ q2
 go_enter Tryz.func99,Tryz.ntmps99
 go_wp2_with fail
 generalize (((w.alloc (.cells #[.slice (some ⟨b,off,none⟩) len cap] 25)).alloc (.cells #[.slice (some ⟨b0,o0,none⟩) 3 c0,.slice (some ⟨b1,o1,none⟩) 4 c1,.slice (some ⟨b2,o2,none⟩) 2 c2,.slice (some ⟨b3,o3,none⟩) 6 c3] 33)).alloc (.cells #[.slice none 0 0,.slice none 0 0,.slice none 0 0,.slice none 0 0] 33))=W0 at *
 have d0:=pP.cell 0
 have d1:=pS.cell 0
 simp only [List.getElem?_cons_zero] at d0 d1
 refine wp_region_held_drew (S:=(fun w'=>w'.cell? ⟨w.heap.size,0,none⟩=some (.slice (some ⟨b,off,none⟩) len cap)∧w'.cell? ⟨w.heap.size+1,0,none⟩=some (.slice (some ⟨b0,o0,none⟩) 3 c0)∧w'.cell? ⟨b,off+k,none⟩=some (.slice (some ⟨cb,co,none⟩) cn cc)∧w'.cell? ⟨b0,o0+k,none⟩=some (.int .i64 p)∧w'.cell? ⟨cb,co+p*3,none⟩=some (.int .i64 8)∧w'.cell? ⟨cb,co+p*3+1,none⟩=some (.int .i64 a)∧w'.cell? ⟨cb,co+p*3+2,none⟩=some (.int .i64 z))) (by kernel_rfl) ⟨d0,d1,e0,e1,q0,q1,q2⟩ (fun hS0=>?_)
 refine tkm 0 10 (.pointer (some ⟨w.heap.size,0,none⟩)) ?_
 refine tkm 1 11 (.slice (some ⟨b,off,none⟩) len cap) ?_
 refine tkm 2 12 (.int .i64 k) ?_
 refine tkm 3 13 (.pointer (some ⟨b,off+k,none⟩)) ?_
 refine tkm 4 14 (.slice (some ⟨cb,co,none⟩) cn cc) ?_
 refine tkm 5 15 (.pointer (some ⟨w.heap.size+1,0,none⟩)) ?_
 refine tkm 6 16 (.slice (some ⟨b0,o0,none⟩) 3 c0) ?_
 refine tkm 7 17 (.int .i64 k) ?_
 refine tkm 8 18 (.pointer (some ⟨b0,o0+k,none⟩)) ?_
 refine tkm 9 19 (.int .i64 p) ?_
 refine tkm 10 20 (.pointer (some ⟨cb,co+p*3,none⟩)) ?_
 refine tkm 11 21 (.agg #[.int .i64 8,.int .i64 a,.int .i64 z]) ?_
 refine tkr 12 8 (fun K hK=>?_)
 have hal:Below W0.drew.heap.size W0.drew (W0.drew.alloc (.cells #[.int .i64 0,.int .i64 0,.int .i64 0] 159)):=by go_grown
 go_simp
 refine hK.out _ _ ?_ (fun hS1=>?_)
 ·exact ⟨cells_kept hal _ _ hS0.1,cells_kept hal _ _ hS0.2.1,cells_kept hal _ _ hS0.2.2.1,cells_kept hal _ _ hS0.2.2.2.1,cells_kept hal _ _ hS0.2.2.2.2.1,cells_kept hal _ _ hS0.2.2.2.2.2.1,cells_kept hal _ _ hS0.2.2.2.2.2.2⟩
 clear hK
 try simp only [Act.put,tka,tkb,tkc]
 refine tkz 13 (fun K hK=>?_)
 have hal2:Below W0.drew.heap.size W0.drew (W0.drew.alloc (.cells #[.int .i64 8,.int .i64 a,.int .i64 z] 159)):=by go_grown
 go_simp
 refine hK.out _ _ ?_ (fun hS2=>?_)
 ·exact ⟨cells_kept hal2 _ _ hS0.1,cells_kept hal2 _ _ hS0.2.1,cells_kept hal2 _ _ hS0.2.2.1,cells_kept hal2 _ _ hS0.2.2.2.1,cells_kept hal2 _ _ hS0.2.2.2.2.1,cells_kept hal2 _ _ hS0.2.2.2.2.2.1,cells_kept hal2 _ _ hS0.2.2.2.2.2.2⟩
 clear hK
 try simp only [Act.put,tka,tkb,tkc]
 refine wpAnyH_done (by kernel_rfl) ?_ _
 clear hal hal2 hS0 hS1 hS2 e0 e1 q0 q1 q2 d0 d1
 have bx:Below W0.heap.size W0 (W0.alloc (.cells #[.int .i64 8,.int .i64 a,.int .i64 z] 159)).drew:=by go_grown
 have pX:Blk (W0.alloc (.cells #[.int .i64 8,.int .i64 a,.int .i64 z] 159)).drew W0.heap.size 159 [.int .i64 8,.int .i64 a,.int .i64 z]:=Blk.new W0 159 [.int .i64 8,.int .i64 a,.int .i64 z]
 have hgX:=pR.lt
 replace bw:=bel_trans bw bx
 replace pS:=pS.below bx
 replace pR:=pR.below bx
 clear bx pP
 generalize (W0.alloc (.cells #[.int .i64 8,.int .i64 a,.int .i64 z] 159)).drew=W1 at *
 generalize W0.heap.size=gX at *
 have kO1:=kO W1 bw
 clear kO
 go_wp2_with (refine wpList_load_blk rfl 33 _ rfl (w.heap.size+1) rfl pS _ Tryz.underlying33 rfl (by kernel_rfl) ?_)
 refine kO1.mono ?_
 rintro e w2 ⟨⟨t,rfl,hO⟩,hb⟩
 clear kO1
 obtain ⟨g0,g1,g2,g3,k0,k1,k2,k3,rfl⟩:=ownV_open hO hL
 have uX:S4.val ((some ⟨g0,0,none⟩,3,k0),(some ⟨g1,0,none⟩,4,k1),(some ⟨g2,0,none⟩,2,k2),(some ⟨g3,0,none⟩,6,k3))=.agg #[.slice (some ⟨g0,0,none⟩) 3 k0,.slice (some ⟨g1,0,none⟩) 4 k1,.slice (some ⟨g2,0,none⟩) 2 k2,.slice (some ⟨g3,0,none⟩) 6 k3]:=rfl
 rw [uX]
 clear uX
 replace hO:=hO.lower9 bw.size
 replace bw:=bel_trans bw hb
 replace pS:=pS.below hb
 replace pR:=pR.below hb
 replace pX:=pX.below hb
 clear hb
 go_wp2_with (refine wpList_store_blk rfl 33 _ _ rfl (w.heap.size+1) [.slice (some ⟨g0,0,none⟩) 3 k0,.slice (some ⟨g1,0,none⟩) 4 k1,.slice (some ⟨g2,0,none⟩) 2 k2,.slice (some ⟨g3,0,none⟩) 6 k3] rfl rfl pS (by kernel_rfl) rfl rfl ?_)
 intro w3 pS3 gr
 replace bw:=bw.grown gr bw.size (fun x hx=>by cases hx;omega)
 replace hO:=hO.kept9 gr pS (by decide)
 replace pR:=pR.kept gr (by simp)
 replace pX:=pX.kept gr (by simp;omega)
 clear gr pS
 have pS:=pS3.out
 clear pS3
 have neS0:=hO.1.1.ne9 pS (by decide)
 have neR0:=hO.1.1.ne9 pR (by decide)
 have neX0:=hO.1.1.ne9 pX (by decide)
 have neS1:=hO.1.2.1.ne9 pS (by decide)
 have neR1:=hO.1.2.1.ne9 pR (by decide)
 have neS2:=hO.1.2.2.1.ne9 pS (by decide)
 have neR2:=hO.1.2.2.1.ne9 pR (by decide)
 have neS3:=hO.1.2.2.2.ne9 pS (by decide)
 have neR3:=hO.1.2.2.2.ne9 pR (by decide)
 have lo0:=hO.1.1.lo9.1
 have s0:w3.cell? ⟨w.heap.size+1,0,none⟩=some (.slice (some ⟨g0,0,none⟩) 3 k0):=by simpa using pS.cell 0
 have y0:w3.cell? ⟨g0,k,none⟩=some (.int .i64 (p:Int)):=(hO.1.1.at9 hk).trans (congrArg (fun z=>some (Value.int .i64 z)) hpc)
 have fz0:=hO.1.1.frz9 k
 have hO3:=hO.set0 k ((p:Int)+1)
 have pS3:=pS.away9 (j:=k) (.int .i64 ((p:Int)+1)) neS0
 have pR3:=pR.away9 (j:=k) (.int .i64 ((p:Int)+1)) neR0
 have pX3:=pX.away9 (j:=k) (.int .i64 ((p:Int)+1)) neX0
 have b3:=bw.setCell (p:=⟨g0,k,none⟩) lo0 (.int .i64 ((p:Int)+1))
 have hpw:IntKind.i64.wrap ((p:Int)+1)=(p:Int)+1:=IntWalk.i64_in _ (by omega)
 have hkw:IntKind.i64.wrap ((k:Int)*2)=(k:Int)*2:=IntWalk.i64_in _ (by omega)
 clear hO pS pR pX bw neS0 neR0 neX0
 have v0:=pS3.cell 0
 have v1:=pS3.cell 1
 have v2:=pS3.cell 2
 have v3:=pS3.cell 3
 have u0:=pX3.cell 0
 have u1:=pX3.cell 1
 have u2:=pX3.cell 2
 simp only [List.getElem?_cons_zero,List.getElem?_cons_succ] at v0 v1 v2 v3 u0 u1 u2
 have hr6':(r:Int)<6:=by omega
 have hrw:IntKind.i64.wrap ((r:Int))=(r:Int):=IntWalk.i64_in _ (by omega)
 have r1:(w3.setCell ⟨g0,k,none⟩ (.int .i64 ((p:Int)+1))).cell? ⟨g3,r,none⟩=some (.int .i64 vv):=(hO3.1.2.2.2.at9 hr6).trans (congrArg (fun z=>some (Value.int .i64 z)) hvv)
 have hn0:(vv != z)=true:=by simp [hv0]
 clear hvv pX3
 go_wp2_with fail
 generalize (w3.setCell ⟨g0,k,none⟩ (.int .i64 ((p:Int)+1)))=W3 at *
 go_quiet (fail)
 have hO4:OwnV (W3.drewN nq) w.heap.size ((some ⟨g0,0,none⟩,3,k0),(some ⟨g1,0,none⟩,4,k1),(some ⟨g2,0,none⟩,2,k2),(some ⟨g3,0,none⟩,6,k3)) _:=hO3
 have pS4:Blk (W3.drewN nq) (w.heap.size+1) 33 [.slice (some ⟨g0,0,none⟩) 3 k0,.slice (some ⟨g1,0,none⟩) 4 k1,.slice (some ⟨g2,0,none⟩) 2 k2,.slice (some ⟨g3,0,none⟩) 6 k3]:=pS3
 have pR4:Blk (W3.drewN nq) (w.heap.size+1+1) 33 [.slice none 0 0,.slice none 0 0,.slice none 0 0,.slice none 0 0]:=pR3
 have b4:Below w.heap.size w (W3.drewN nq):=bel_trans b3 (below_dN _)
 clear hO3 pS3 pR3 b3 v0 v1 v2 v3 u0 u1 u2 s0 y0 fz0
 generalize W3.drewN nq=W4 at *
 go_wp2_with (first | refine wpList_load_blk rfl 33 _ rfl (w.heap.size+1) rfl pS4 _ Tryz.underlying33 rfl (by kernel_rfl) ?_ | refine wpList_store_blk rfl 33 _ _ rfl (w.heap.size+1+1) [.slice (some ⟨g0,0,none⟩) 3 k0,.slice (some ⟨g1,0,none⟩) 4 k1,.slice (some ⟨g2,0,none⟩) 2 k2,.slice (some ⟨g3,0,none⟩) 6 k3] rfl rfl pR4 (by kernel_rfl) rfl rfl ?_)
 intro w9 pR9 gr9
 replace b4:=b4.grown gr9 b4.size (fun x hx=>by cases hx;omega)
 replace hO4:=hO4.kept9 gr9 pR4 (by decide)
 clear gr9 pR4 pS4
 go_wp2_with fail
 refine bodyPost_ret (results_blk2 Tryz.results99 _ _ _ _ _ _ rfl pR9.out Tryz.underlying33 rfl (by kernel_rfl)) rfl ?_
 exact ⟨VmGot.mk9 ((some ⟨g0,0,none⟩,3,k0),(some ⟨g1,0,none⟩,4,k1),(some ⟨g2,0,none⟩,2,k2),(some ⟨g3,0,none⟩,6,k3)) rfl hO4,b4⟩


theorem isThreadX (n:Int) (w:World):Calls Tryz.prog 133 #[.int .i64 n] w fun e w'=>e=.returned (.bool (inB n 0 2))∧w=w':=by
 cases h:inB n 0 2
 ·rw [inB_false] at h
  by_cases h1:0≤n
  ·have h2:decide (n<3)=false:=by simp;omega
   clear h
   go_enter Tryz.func133,Tryz.ntmps133
   go_wp2
   go_ret
   exact ⟨rfl,rfl⟩
  ·clear h
   go_enter Tryz.func133,Tryz.ntmps133
   go_wp2
   go_ret
   exact ⟨rfl,rfl⟩
 ·rw [inB_true] at h
  obtain ⟨h1,h3⟩:=h
  have h2:decide (n<3)=true:=by simp;omega
  clear h3
  go_enter Tryz.func133,Tryz.ntmps133
  go_wp2
  go_ret
  exact ⟨by simp_all,rfl⟩

theorem threadAt_bad (a:Option Addr) (len cap:Nat) (rows:List (List I3)) (s:S4) (m:V4) (k:Int) (w:World) (hC:Codes w a len cap rows) (h:Vmem w s m) (hV:VmShape w) (hok:(progOk rows && shapeOk m)=false) :
  Calls Tryz.prog 73 #[.agg #[.slice a len cap],s.val,.int .i64 k] w fun e w'=>e=.returned (.tuple #[.agg #[.slice none 0 0,.int .i64 0,.int .i64 0,.int .i64 0,.slice none 0 0,.int .i64 0,.int .i64 0,.int .i64 0,.slice none 0 0,.int .i64 0,.int .i64 0,.int .i64 0,.int .i64 0,.int .i64 0,.int .i64 0,.int .i64 0,.int .i64 0,.int .i64 0],.int .i64 1])∧Below w.heap.size w w':=by
 have hM:=fun (W:World) (hb:Below w.heap.size w W)=>h.below hb
 have kM:=fun w hC h hV=>machineOf_bad a len cap rows s m w hC h hV hok
 obtain ⟨⟨a0,n0,c0⟩,⟨a1,n1,c1⟩,⟨a2,n2,c2⟩,⟨a3,n3,c3⟩⟩:=s
 have uA:S4.val ((a0,n0,c0),(a1,n1,c1),(a2,n2,c2),(a3,n3,c3))=.agg #[.slice a0 n0 c0,.slice a1 n1 c1,.slice a2 n2 c2,.slice a3 n3 c3]:=rfl
 rw [uA] at kM ⊢
 clear uA h
 have bw:Below w.heap.size w (((w.alloc (.cells #[.slice a len cap] 25)).alloc (.cells #[.slice a0 n0 c0,.slice a1 n1 c1,.slice a2 n2 c2,.slice a3 n3 c3] 33)).alloc (.cells #[.slice none 0 0,.int .i64 0,.int .i64 0,.int .i64 0,.slice none 0 0,.int .i64 0,.int .i64 0,.int .i64 0,.slice none 0 0,.int .i64 0,.int .i64 0,.int .i64 0,.int .i64 0,.int .i64 0,.int .i64 0,.int .i64 0,.int .i64 0,.int .i64 0] 89)):=by go_grown
 have pR:Blk (((w.alloc (.cells #[.slice a len cap] 25)).alloc (.cells #[.slice a0 n0 c0,.slice a1 n1 c1,.slice a2 n2 c2,.slice a3 n3 c3] 33)).alloc (.cells #[.slice none 0 0,.int .i64 0,.int .i64 0,.int .i64 0,.slice none 0 0,.int .i64 0,.int .i64 0,.int .i64 0,.slice none 0 0,.int .i64 0,.int .i64 0,.int .i64 0,.int .i64 0,.int .i64 0,.int .i64 0,.int .i64 0,.int .i64 0,.int .i64 0] 89)) (w.heap.size+1+1) 89 [.slice none 0 0,.int .i64 0,.int .i64 0,.int .i64 0,.slice none 0 0,.int .i64 0,.int .i64 0,.int .i64 0,.slice none 0 0,.int .i64 0,.int .i64 0,.int .i64 0,.int .i64 0,.int .i64 0,.int .i64 0,.int .i64 0,.int .i64 0,.int .i64 0]:=blkAt _ _ _ (by simp)
 go_enter Tryz.func73,Tryz.ntmps73
 go_wp2_with fail
 refine (kM _ (hC.below bw) (hM _ bw) (hV.below bw)).mono ?_
 rintro e w1 ⟨rfl,hb⟩
 replace bw:=bel_trans bw hb
 replace pR:=pR.below hb
 have hlR:=pR.lt
 have hg1:w.heap.size<w1.heap.size:=Nat.lt_of_lt_of_le (by simp;omega) hb.size
 clear hb kM hM hV hC
 have pN:=Blk.new w1 89 [.slice none 0 0,.int .i64 0,.int .i64 0,.int .i64 0,.slice none 0 0,.int .i64 0,.int .i64 0,.int .i64 0,.slice none 0 0,.int .i64 0,.int .i64 0,.int .i64 0,.int .i64 0,.int .i64 0,.int .i64 0,.int .i64 0,.int .i64 0,.int .i64 0]
 have bN:Below w1.heap.size w1 (w1.alloc (.cells #[.slice none 0 0,.int .i64 0,.int .i64 0,.int .i64 0,.slice none 0 0,.int .i64 0,.int .i64 0,.int .i64 0,.slice none 0 0,.int .i64 0,.int .i64 0,.int .i64 0,.int .i64 0,.int .i64 0,.int .i64 0,.int .i64 0,.int .i64 0,.int .i64 0] 89)):=by go_grown
 go_wp2_with (refine wpList_store_blk rfl 89 _ _ rfl w1.heap.size [.slice none 0 0,.int .i64 0,.int .i64 0,.int .i64 0,.slice none 0 0,.int .i64 0,.int .i64 0,.int .i64 0,.slice none 0 0,.int .i64 0,.int .i64 0,.int .i64 0,.int .i64 0,.int .i64 0,.int .i64 0,.int .i64 0,.int .i64 0,.int .i64 0] rfl rfl pN (by kernel_rfl) rfl rfl ?_)
 intro w2 pM g2
 replace pR:=(pR.below bN).kept g2 (by simp;omega)
 replace bw:=(bel_trans bw bN).grown g2 (by simp;omega) (fun x hx=>by cases hx;omega)
 clear g2 bN pN
 generalize w1.heap.size=gM at *
 go_wp2_with (first | refine wpList_load_blk rfl 89 _ rfl gM rfl pM.out _ Tryz.underlying89 rfl (by kernel_rfl) ?_ | refine wpList_store_blk rfl 89 _ _ rfl (w.heap.size+1+1) [.slice none 0 0,.int .i64 0,.int .i64 0,.int .i64 0,.slice none 0 0,.int .i64 0,.int .i64 0,.int .i64 0,.slice none 0 0,.int .i64 0,.int .i64 0,.int .i64 0,.int .i64 0,.int .i64 0,.int .i64 0,.int .i64 0,.int .i64 0,.int .i64 0] rfl rfl pR (by kernel_rfl) rfl rfl ?_)
 intro w3 pR3 g3
 replace bw:=bw.grown g3 bw.size (fun x hx=>by cases hx;omega)
 clear g3 pR pM
 go_wp2_with fail
 refine bodyPost_ret (results_blk2 Tryz.results73 _ _ _ _ _ _ rfl pR3.out Tryz.underlying89 rfl (by kernel_rfl)) rfl ?_
 exact ⟨rfl,bw⟩

theorem threadAt_range (a:Option Addr) (len cap:Nat) (rows:List (List I3)) (s:S4) (m:V4) (k:Int) (w:World) (hC:Codes w a len cap rows) (h:Vmem w s m) (hV:VmShape w) (hp:progOk rows=true) (hs:shapeOk m=true) (hk:k<0∨3≤k) :
  Calls Tryz.prog 73 #[.agg #[.slice a len cap],s.val,.int .i64 k] w fun e w'=>e=.returned (.tuple #[.agg #[.slice none 0 0,.int .i64 0,.int .i64 0,.int .i64 0,.slice none 0 0,.int .i64 0,.int .i64 0,.int .i64 0,.slice none 0 0,.int .i64 0,.int .i64 0,.int .i64 0,.int .i64 0,.int .i64 0,.int .i64 0,.int .i64 0,.int .i64 0,.int .i64 0],.int .i64 4])∧Below w.heap.size w w':=by
 have hM:=fun (W:World) (hb:Below w.heap.size w W)=>h.below hb
 have kM:=fun w hC h hV=>machineOf_ok a len cap rows s m w hC h hV hp hs
 obtain ⟨⟨a0,n0,c0⟩,⟨a1,n1,c1⟩,⟨a2,n2,c2⟩,⟨a3,n3,c3⟩⟩:=s
 have uA:S4.val ((a0,n0,c0),(a1,n1,c1),(a2,n2,c2),(a3,n3,c3))=.agg #[.slice a0 n0 c0,.slice a1 n1 c1,.slice a2 n2 c2,.slice a3 n3 c3]:=rfl
 rw [uA] at kM ⊢
 clear uA h
 have bw:Below w.heap.size w (((w.alloc (.cells #[.slice a len cap] 25)).alloc (.cells #[.slice a0 n0 c0,.slice a1 n1 c1,.slice a2 n2 c2,.slice a3 n3 c3] 33)).alloc (.cells #[.slice none 0 0,.int .i64 0,.int .i64 0,.int .i64 0,.slice none 0 0,.int .i64 0,.int .i64 0,.int .i64 0,.slice none 0 0,.int .i64 0,.int .i64 0,.int .i64 0,.int .i64 0,.int .i64 0,.int .i64 0,.int .i64 0,.int .i64 0,.int .i64 0] 89)):=by go_grown
 have pR:Blk (((w.alloc (.cells #[.slice a len cap] 25)).alloc (.cells #[.slice a0 n0 c0,.slice a1 n1 c1,.slice a2 n2 c2,.slice a3 n3 c3] 33)).alloc (.cells #[.slice none 0 0,.int .i64 0,.int .i64 0,.int .i64 0,.slice none 0 0,.int .i64 0,.int .i64 0,.int .i64 0,.slice none 0 0,.int .i64 0,.int .i64 0,.int .i64 0,.int .i64 0,.int .i64 0,.int .i64 0,.int .i64 0,.int .i64 0,.int .i64 0] 89)) (w.heap.size+1+1) 89 [.slice none 0 0,.int .i64 0,.int .i64 0,.int .i64 0,.slice none 0 0,.int .i64 0,.int .i64 0,.int .i64 0,.slice none 0 0,.int .i64 0,.int .i64 0,.int .i64 0,.int .i64 0,.int .i64 0,.int .i64 0,.int .i64 0,.int .i64 0,.int .i64 0]:=blkAt _ _ _ (by simp)
 go_enter Tryz.func73,Tryz.ntmps73
 go_wp2_with fail
 refine (kM _ (hC.below bw) (hM _ bw) (hV.below bw)).mono ?_
 rintro e w1 ⟨⟨cs,rfl,HI⟩,hb⟩
 replace bw:=bel_trans bw hb
 replace pR:=pR.below hb
 have hlR:=pR.lt
 have hg1:w.heap.size<w1.heap.size:=Nat.lt_of_lt_of_le (by simp;omega) hb.size
 clear hb kM hM hV hC
 have pN:=Blk.new w1 89 [.slice none 0 0,.int .i64 0,.int .i64 0,.int .i64 0,.slice none 0 0,.int .i64 0,.int .i64 0,.int .i64 0,.slice none 0 0,.int .i64 0,.int .i64 0,.int .i64 0,.int .i64 0,.int .i64 0,.int .i64 0,.int .i64 0,.int .i64 0,.int .i64 0]
 have bN:Below w1.heap.size w1 (w1.alloc (.cells #[.slice none 0 0,.int .i64 0,.int .i64 0,.int .i64 0,.slice none 0 0,.int .i64 0,.int .i64 0,.int .i64 0,.slice none 0 0,.int .i64 0,.int .i64 0,.int .i64 0,.int .i64 0,.int .i64 0,.int .i64 0,.int .i64 0,.int .i64 0,.int .i64 0] 89)):=by go_grown
 go_wp2_with (refine wpList_store_blk rfl 89 _ _ rfl w1.heap.size (machCells cs.1.val cs.2.1.val cs.2.2.val m) rfl rfl pN (by kernel_rfl) rfl rfl ?_)
 intro w2 pM g2
 replace pR:=(pR.below bN).kept g2 (by simp;omega)
 replace bw:=(bel_trans bw bN).grown g2 (by simp;omega) (fun x hx=>by cases hx;omega)
 clear g2 bN pN
 generalize w1.heap.size=gM at *
 have kT:=isThreadX k
 rw [show inB k 0 2=false from inB_false.2 (by omega)] at kT
 go_wp2_with fail
 refine (kT _).mono ?_
 rintro e w9 ⟨rfl,rfl⟩
 go_wp2_with (refine wpList_store_blk rfl 89 _ _ rfl (w.heap.size+1+1) [.slice none 0 0,.int .i64 0,.int .i64 0,.int .i64 0,.slice none 0 0,.int .i64 0,.int .i64 0,.int .i64 0,.slice none 0 0,.int .i64 0,.int .i64 0,.int .i64 0,.int .i64 0,.int .i64 0,.int .i64 0,.int .i64 0,.int .i64 0,.int .i64 0] rfl rfl pR (by kernel_rfl) rfl rfl ?_)
 intro w3 pR3 g3
 replace bw:=bw.grown g3 bw.size (fun x hx=>by cases hx;omega)
 clear g3 pR pM
 go_wp2_with fail
 refine bodyPost_ret (results_blk2 Tryz.results73 _ _ _ _ _ _ rfl pR3.out Tryz.underlying89 rfl (by kernel_rfl)) rfl ?_
 exact ⟨rfl,bw⟩

theorem threadAt_ok (a:Option Addr) (len cap:Nat) (rows:List (List I3)) (s:S4) (m:V4) (k:Nat) (w:World) (hC:Codes w a len cap rows) (h:Vmem w s m) (hV:VmShape w) (hp:progOk rows=true) (hs:shapeOk m=true) (hk:k<3) (cs:Sl × Sl × Sl) (hR:RowsAt w a cs rows) :
  Calls Tryz.prog 73 #[.agg #[.slice a len cap],s.val,.int .i64 k] w fun e w'=>e=.returned (.tuple #[.agg (machCells cs.1.val cs.2.1.val cs.2.2.val m).toArray,.int .i64 0])∧Below w.heap.size w w':=by
 have hM:=fun (W:World) (hb:Below w.heap.size w W)=>h.below hb
 have kM:=fun w hC h hV=>machineOf_ok a len cap rows s m w hC h hV hp hs
 obtain ⟨⟨a0,n0,c0⟩,⟨a1,n1,c1⟩,⟨a2,n2,c2⟩,⟨a3,n3,c3⟩⟩:=s
 have uA:S4.val ((a0,n0,c0),(a1,n1,c1),(a2,n2,c2),(a3,n3,c3))=.agg #[.slice a0 n0 c0,.slice a1 n1 c1,.slice a2 n2 c2,.slice a3 n3 c3]:=rfl
 rw [uA] at kM ⊢
 clear uA h
 have bw:Below w.heap.size w (((w.alloc (.cells #[.slice a len cap] 25)).alloc (.cells #[.slice a0 n0 c0,.slice a1 n1 c1,.slice a2 n2 c2,.slice a3 n3 c3] 33)).alloc (.cells #[.slice none 0 0,.int .i64 0,.int .i64 0,.int .i64 0,.slice none 0 0,.int .i64 0,.int .i64 0,.int .i64 0,.slice none 0 0,.int .i64 0,.int .i64 0,.int .i64 0,.int .i64 0,.int .i64 0,.int .i64 0,.int .i64 0,.int .i64 0,.int .i64 0] 89)):=by go_grown
 have pR:Blk (((w.alloc (.cells #[.slice a len cap] 25)).alloc (.cells #[.slice a0 n0 c0,.slice a1 n1 c1,.slice a2 n2 c2,.slice a3 n3 c3] 33)).alloc (.cells #[.slice none 0 0,.int .i64 0,.int .i64 0,.int .i64 0,.slice none 0 0,.int .i64 0,.int .i64 0,.int .i64 0,.slice none 0 0,.int .i64 0,.int .i64 0,.int .i64 0,.int .i64 0,.int .i64 0,.int .i64 0,.int .i64 0,.int .i64 0,.int .i64 0] 89)) (w.heap.size+1+1) 89 [.slice none 0 0,.int .i64 0,.int .i64 0,.int .i64 0,.slice none 0 0,.int .i64 0,.int .i64 0,.int .i64 0,.slice none 0 0,.int .i64 0,.int .i64 0,.int .i64 0,.int .i64 0,.int .i64 0,.int .i64 0,.int .i64 0,.int .i64 0,.int .i64 0]:=blkAt _ _ _ (by simp)
 go_enter Tryz.func73,Tryz.ntmps73
 go_wp2_with fail
 refine (kM _ (hC.below bw) (hM _ bw) (hV.below bw)).mono ?_
 rintro e w1 ⟨⟨cs9,rfl,HI⟩,hb⟩
 obtain rfl:=(hR.below bw).uniq HI
 replace bw:=bel_trans bw hb
 replace pR:=pR.below hb
 have hlR:=pR.lt
 have hg1:w.heap.size<w1.heap.size:=Nat.lt_of_lt_of_le (by simp;omega) hb.size
 clear hb kM hM hV hC
 have pN:=Blk.new w1 89 [.slice none 0 0,.int .i64 0,.int .i64 0,.int .i64 0,.slice none 0 0,.int .i64 0,.int .i64 0,.int .i64 0,.slice none 0 0,.int .i64 0,.int .i64 0,.int .i64 0,.int .i64 0,.int .i64 0,.int .i64 0,.int .i64 0,.int .i64 0,.int .i64 0]
 have bN:Below w1.heap.size w1 (w1.alloc (.cells #[.slice none 0 0,.int .i64 0,.int .i64 0,.int .i64 0,.slice none 0 0,.int .i64 0,.int .i64 0,.int .i64 0,.slice none 0 0,.int .i64 0,.int .i64 0,.int .i64 0,.int .i64 0,.int .i64 0,.int .i64 0,.int .i64 0,.int .i64 0,.int .i64 0] 89)):=by go_grown
 go_wp2_with (refine wpList_store_blk rfl 89 _ _ rfl w1.heap.size (machCells cs.1.val cs.2.1.val cs.2.2.val m) rfl rfl pN (by kernel_rfl) rfl rfl ?_)
 intro w2 pM g2
 replace pR:=(pR.below bN).kept g2 (by simp;omega)
 replace bw:=(bel_trans bw bN).grown g2 (by simp;omega) (fun x hx=>by cases hx;omega)
 clear g2 bN pN
 generalize w1.heap.size=gM at *
 have hk3:(k:Int)<3:=by omega
 have kT:=isThreadX k
 rw [show inB (k:Int) 0 2=true from inB_true.2 (by omega)] at kT
 go_wp2_with fail
 refine (kT _).mono ?_
 rintro e w9 ⟨rfl,rfl⟩
 go_wp2_with (first | refine wpList_load_blk rfl 89 _ rfl gM rfl pM.out _ Tryz.underlying89 rfl (by kernel_rfl) ?_ | refine wpList_store_blk rfl 89 _ _ rfl (w.heap.size+1+1) (machCells cs.1.val cs.2.1.val cs.2.2.val m) rfl rfl pR (by kernel_rfl) rfl rfl ?_)
 intro w3 pR3 g3
 replace bw:=bw.grown g3 bw.size (fun x hx=>by cases hx;omega)
 clear g3 pR pM
 go_wp2_with fail
 refine bodyPost_ret (results_blk2 Tryz.results73 _ _ _ _ _ _ rfl pR3.out Tryz.underlying89 rfl (by kernel_rfl)) rfl ?_
 exact ⟨rfl,bw⟩

theorem implEnabledOf_bad (a:Option Addr) (len cap:Nat) (rows:List (List I3)) (s:S4) (m:V4)  (w:World) (hC:Codes w a len cap rows) (h:Vmem w s m) (hV:VmShape w) (hok:(progOk rows && shapeOk m)=false) :
  Calls Tryz.prog 28 #[.agg #[.slice a len cap],s.val] w fun e w'=>e=.returned (.tuple #[.slice none 0 0,.int .i64 1])∧Below w.heap.size w w':=by
 have hM:=fun (W:World) (hb:Below w.heap.size w W)=>h.below hb
 have kM:=fun w hC h hV=>machineOf_bad a len cap rows s m w hC h hV hok
 obtain ⟨⟨a0,n0,c0⟩,⟨a1,n1,c1⟩,⟨a2,n2,c2⟩,⟨a3,n3,c3⟩⟩:=s
 have uA:S4.val ((a0,n0,c0),(a1,n1,c1),(a2,n2,c2),(a3,n3,c3))=.agg #[.slice a0 n0 c0,.slice a1 n1 c1,.slice a2 n2 c2,.slice a3 n3 c3]:=rfl
 rw [uA] at kM ⊢
 clear uA h
 have bw:Below w.heap.size w ((w.alloc (.cells #[.slice a len cap] 25)).alloc (.cells #[.slice a0 n0 c0,.slice a1 n1 c1,.slice a2 n2 c2,.slice a3 n3 c3] 33)):=by go_grown
 go_enter Tryz.func28,Tryz.ntmps28
 go_wp2_with fail
 refine (kM _ (hC.below bw) (hM _ bw) (hV.below bw)).mono ?_
 rintro e w1 ⟨rfl,hb⟩
 replace bw:=bel_trans bw hb
 skip
 skip
 have hg1:w.heap.size<w1.heap.size:=Nat.lt_of_lt_of_le (by simp;omega) hb.size
 clear hb kM hM hV hC
 have pN:=Blk.new w1 89 [.slice none 0 0,.int .i64 0,.int .i64 0,.int .i64 0,.slice none 0 0,.int .i64 0,.int .i64 0,.int .i64 0,.slice none 0 0,.int .i64 0,.int .i64 0,.int .i64 0,.int .i64 0,.int .i64 0,.int .i64 0,.int .i64 0,.int .i64 0,.int .i64 0]
 have bN:Below w1.heap.size w1 (w1.alloc (.cells #[.slice none 0 0,.int .i64 0,.int .i64 0,.int .i64 0,.slice none 0 0,.int .i64 0,.int .i64 0,.int .i64 0,.slice none 0 0,.int .i64 0,.int .i64 0,.int .i64 0,.int .i64 0,.int .i64 0,.int .i64 0,.int .i64 0,.int .i64 0,.int .i64 0] 89)):=by go_grown
 go_wp2_with (refine wpList_store_blk rfl 89 _ _ rfl w1.heap.size [.slice none 0 0,.int .i64 0,.int .i64 0,.int .i64 0,.slice none 0 0,.int .i64 0,.int .i64 0,.int .i64 0,.slice none 0 0,.int .i64 0,.int .i64 0,.int .i64 0,.int .i64 0,.int .i64 0,.int .i64 0,.int .i64 0,.int .i64 0,.int .i64 0] rfl rfl pN (by kernel_rfl) rfl rfl ?_)
 intro w2 pM g2
 skip
 replace bw:=(bel_trans bw bN).grown g2 (by simp;omega) (fun x hx=>by cases hx;omega)
 clear g2 bN pN
 generalize w1.heap.size=gM at *
 go_wp2
 go_ret2
 exact ⟨rfl,bw⟩

theorem implEnabledOf_ok (a:Option Addr) (len cap:Nat) (rows:List (List I3)) (s:S4) (m:V4)  (w:World) (hC:Codes w a len cap rows) (h:Vmem w s m) (hV:VmShape w) (hp:progOk rows=true) (hs:shapeOk m=true) :
  Calls Tryz.prog 28 #[.agg #[.slice a len cap],s.val] w fun e w'=>(∃ s9:Sl,e=.returned (.tuple #[.slice s9.1 s9.2.1 s9.2.2,.int .i64 0])∧OwnI w' w.heap.size s9 (enabM rows m 3))∧Below w.heap.size w w':=by
 obtain ⟨-,cs,hR⟩:=hC.rowsAt hp
 have hM:=fun (W:World) (hb:Below w.heap.size w W)=>h.below hb
 have kM:=fun w hC h hV=>machineOf_ok a len cap rows s m w hC h hV hp hs
 obtain ⟨⟨a0,n0,c0⟩,⟨a1,n1,c1⟩,⟨a2,n2,c2⟩,⟨a3,n3,c3⟩⟩:=s
 have uA:S4.val ((a0,n0,c0),(a1,n1,c1),(a2,n2,c2),(a3,n3,c3))=.agg #[.slice a0 n0 c0,.slice a1 n1 c1,.slice a2 n2 c2,.slice a3 n3 c3]:=rfl
 rw [uA] at kM ⊢
 clear uA h
 have bw:Below w.heap.size w ((w.alloc (.cells #[.slice a len cap] 25)).alloc (.cells #[.slice a0 n0 c0,.slice a1 n1 c1,.slice a2 n2 c2,.slice a3 n3 c3] 33)):=by go_grown
 go_enter Tryz.func28,Tryz.ntmps28
 go_wp2_with fail
 refine (kM _ (hC.below bw) (hM _ bw) (hV.below bw)).mono ?_
 rintro e w1 ⟨⟨cs9,rfl,HI⟩,hb⟩
 obtain rfl:=(hR.below bw).uniq HI
 replace bw:=bel_trans bw hb
 skip
 skip
 have hg1:w.heap.size<w1.heap.size:=Nat.lt_of_lt_of_le (by simp;omega) hb.size
 clear hb kM hM hV hC
 have pN:=Blk.new w1 89 [.slice none 0 0,.int .i64 0,.int .i64 0,.int .i64 0,.slice none 0 0,.int .i64 0,.int .i64 0,.int .i64 0,.slice none 0 0,.int .i64 0,.int .i64 0,.int .i64 0,.int .i64 0,.int .i64 0,.int .i64 0,.int .i64 0,.int .i64 0,.int .i64 0]
 have bN:Below w1.heap.size w1 (w1.alloc (.cells #[.slice none 0 0,.int .i64 0,.int .i64 0,.int .i64 0,.slice none 0 0,.int .i64 0,.int .i64 0,.int .i64 0,.slice none 0 0,.int .i64 0,.int .i64 0,.int .i64 0,.int .i64 0,.int .i64 0,.int .i64 0,.int .i64 0,.int .i64 0,.int .i64 0] 89)):=by go_grown
 go_wp2_with (refine wpList_store_blk rfl 89 _ _ rfl w1.heap.size (machCells cs.1.val cs.2.1.val cs.2.2.val m) rfl rfl pN (by kernel_rfl) rfl rfl ?_)
 intro w2 pM g2
 skip
 replace bw:=(bel_trans bw bN).grown g2 (by simp;omega) (fun x hx=>by cases hx;omega)
 clear g2 bN pN
 generalize w1.heap.size=gM at *
 have hMA:=(hR.below bw).mach pM.out
 have kE:=enabled_is gM cs rows m w2 hMA hp hs
 go_wp2_with fail
 refine kE.mono ?_
 rintro e w3 ⟨⟨⟨sa,sn,sc⟩,rfl,hO⟩,hb⟩
 have hO2:OwnI w3 w.heap.size (sa,sn,sc) (enabM rows m 3):=own_lower hO bw.size
 replace bw:=bel_trans bw hb
 simp only
 go_wp2
 go_ret2
 exact ⟨⟨(sa,sn,sc),rfl,hO2⟩,bw⟩


theorem OwnI.open9 {w:World} {B g n c:Nat} {zs:List Int} (h:OwnI w B (some ⟨g,0,none⟩,n,c) zs):∃ cur:List Value,Blk w g 3 cur∧cur.length=c∧cur.take n=zs.map (Value.int .i64)∧B≤g∧n≤c∧c≤maxLen:=by
 unfold OwnI at h
 simp only at h
 rcases h.2 with ⟨h0,_⟩ | ⟨g',cap,cur,hv,hB,hh,hn,hm,hs,ht⟩
 ·cases h0
 ·cases hv
  refine ⟨cur.toList,by unfold Blk;simpa using hh,by simpa using hs,by simpa using ht,hB,hn,hm⟩
theorem OwnI.shut9 {w:World} {B g n c:Nat} {zs:List Int} {cur:List Value} (h:Blk w g 3 cur) (hc:cur.length=c) (ht:cur.take n=zs.map (Value.int .i64)) (hl:zs.length=n) (hB:B≤g) (hn:n≤c) (hm:c≤maxLen):OwnI w B (some ⟨g,0,none⟩,n,c) zs:=
 ⟨by simpa using hl,.inr ⟨g,c,_,rfl,hB,h,hn,hm,by simpa using hc,by simpa using ht⟩⟩
theorem take_splice {cur cs:List Value} {off n:Nat} (h:off+cs.length≤n) (hn:n≤cur.length):(splice cur off cs).take n=splice (cur.take n) off cs:=by
 unfold splice
 have h1:(cur.take n).take off=cur.take off:=by rw [List.take_take,Nat.min_eq_left (by omega)]
 have h2:(cur.take n).drop (off+cs.length)=(cur.drop (off+cs.length)).take (n - (off+cs.length)):=List.drop_take
 have h3:(cur.take off).length=off:=by simp;omega
 rw [h1,h2,List.take_append,List.take_of_length_le (show (cur.take off).length≤n by omega),h3,List.take_append,List.take_of_length_le (show cs.length≤n - off by omega),Nat.sub_sub]
theorem OwnI.spliced9 {w':World} {B g n c off:Nat} {zs zs':List Int} {cur:List Value} {cs:List Value} (hc:cur.length=c) (ht:cur.take n=zs.map (Value.int .i64)) (hB:B≤g) (hn:n≤c) (hm:c≤maxLen) (hw:Blk w' g 3 (splice cur off cs)) (hf:off+cs.length≤n) (hz:splice (zs.map (Value.int .i64)) off cs=zs'.map (Value.int .i64)) (hl:zs'.length=n):OwnI w' B (some ⟨g,0,none⟩,n,c) zs':=
 OwnI.shut9 hw ((length_splice cur off cs (by omega)).trans hc) (by rw [take_splice hf (by omega),ht,hz]) hl hB hn hm
theorem OwnV.drew9 {w:World} {B:Nat} {s:S4} {m:V4} (h:OwnV w B s m):OwnV w.drew B s m:=h
section
variable {w w' : World} {B g n c : Nat} {s0 s1 s2 s3 : Sl} {m : V4} {zs' : List Int}
theorem kept_ap {s:Sl} {zs:List Int} (h:OwnI w B s zs) (hg:w.grownBy w' (some g)) (ha:Apart (some ⟨g,0,none⟩,n,c) s):OwnI w' B s zs:=
 World.ownsRow.kept h hg (by
  cases hb:(Value.slice s.1 s.2.1 s.2.2).ownBlock with
  | none=>exact .inl rfl
  | some g'=>exact .inr fun e=>ha g rfl (by rw [hb,e]))
theorem OwnV.into1 (h:OwnV w B (s0,(some ⟨g,0,none⟩,n,c),s2,s3) m) (hg:w.grownBy w' (some g)) (hn:OwnI w' B (some ⟨g,0,none⟩,n,c) zs'):OwnV w' B (s0,(some ⟨g,0,none⟩,n,c),s2,s3) (m.1,zs',m.2.2):=
 ⟨⟨kept_ap h.1.1 hg h.2.1.symm,hn,kept_ap h.1.2.2.1 hg h.2.2.2.2.1,kept_ap h.1.2.2.2 hg h.2.2.2.2.2.1⟩,h.2⟩
theorem OwnV.into2 (h:OwnV w B (s0,s1,(some ⟨g,0,none⟩,n,c),s3) m) (hg:w.grownBy w' (some g)) (hn:OwnI w' B (some ⟨g,0,none⟩,n,c) zs'):OwnV w' B (s0,s1,(some ⟨g,0,none⟩,n,c),s3) (m.1,m.2.1,zs',m.2.2.2):=
 ⟨⟨kept_ap h.1.1 hg h.2.2.1.symm,kept_ap h.1.2.1 hg h.2.2.2.2.1.symm,hn,kept_ap h.1.2.2.2 hg h.2.2.2.2.2.2⟩,h.2⟩
theorem OwnV.into3 (h:OwnV w B (s0,s1,s2,(some ⟨g,0,none⟩,n,c)) m) (hg:w.grownBy w' (some g)) (hn:OwnI w' B (some ⟨g,0,none⟩,n,c) zs'):OwnV w' B (s0,s1,s2,(some ⟨g,0,none⟩,n,c)) (m.1,m.2.1,m.2.2.1,zs'):=
 ⟨⟨kept_ap h.1.1 hg h.2.2.2.1.symm,kept_ap h.1.2.1 hg h.2.2.2.2.2.1.symm,kept_ap h.1.2.2.1 hg h.2.2.2.2.2.2.symm,hn⟩,h.2⟩
end
theorem blk_src {w:World} {g t off:Nat} {L cs:List Value} (h:Blk w g t L) (hc:∀ j v,cs[j]?=some v→L[off+j]?=some v):∀ j v,cs[j]?=some v→w.cell? ((⟨g,off,none⟩:Addr).add j)=some v:=by
 intro j v hj
 have e:(⟨g,off,none⟩:Addr).add j=⟨g,off+j,none⟩:=by unfold Addr.add;split<;>simp_all
 rw [e,h.cell,hc j v hj]

theorem idxT_0 (w0 w1 w2 w3 w4 w5 w6 w7 w8 w9 w10 w11:Value) (W:World):(Instr.index 86 (.agg #[w0,w1,w2,w3,w4,w5,w6,w7,w8,w9,w10,w11]) (.int .i64 0)).run Tryz.prog W=.ok (.agg #[w0,w1,w2,w3]) W:=by kernel_rfl
theorem idxT_1 (w0 w1 w2 w3 w4 w5 w6 w7 w8 w9 w10 w11:Value) (W:World):(Instr.index 86 (.agg #[w0,w1,w2,w3,w4,w5,w6,w7,w8,w9,w10,w11]) (.int .i64 1)).run Tryz.prog W=.ok (.agg #[w4,w5,w6,w7]) W:=by kernel_rfl
theorem idxT_2 (w0 w1 w2 w3 w4 w5 w6 w7 w8 w9 w10 w11:Value) (W:World):(Instr.index 86 (.agg #[w0,w1,w2,w3,w4,w5,w6,w7,w8,w9,w10,w11]) (.int .i64 2)).run Tryz.prog W=.ok (.agg #[w8,w9,w10,w11]) W:=by kernel_rfl

theorem state_raw (g:Nat) (da0:Option Addr) (dn0 dc0:Nat) (da1:Option Addr) (dn1 dc1:Nat) (da2:Option Addr) (dn2 dc2:Nat) (p0 p1 p2 v0 v1 v2 v3 h0 h1 x0 y0 x1 y1 x2 y2:Int) (w:World) (hM:Blk w g 89 [.slice da0 dn0 dc0,.int .i64 p0,.int .i64 x0,.int .i64 y0,.slice da1 dn1 dc1,.int .i64 p1,.int .i64 x1,.int .i64 y1,.slice da2 dn2 dc2,.int .i64 p2,.int .i64 x2,.int .i64 y2,.int .i64 v0,.int .i64 v1,.int .i64 v2,.int .i64 v3,.int .i64 h0,.int .i64 h1]) :
  Calls Tryz.prog 59 #[.pointer (some ⟨g,0,none⟩)] w fun e w'=>VmOne e w' w.heap.size ([p0,p1,p2],[v0,v1,v2,v3],[h0,h1],[x0,y0,x1,y1,x2,y2])∧Below w.heap.size w w':=by
 have kN:=implNewVm_is
 have bw:Below w.heap.size w (w.alloc (.cells #[.slice none 0 0,.slice none 0 0,.slice none 0 0,.slice none 0 0] 33)):=by go_grown
 have pR:=Blk.new w 33 [.slice none 0 0,.slice none 0 0,.slice none 0 0,.slice none 0 0]
 go_enter Tryz.func59,Tryz.ntmps59
 go_wp2_with fail
 refine (kN _).mono ?_
 rintro e w1 ⟨⟨t,rfl,hO⟩,hb⟩
 obtain ⟨g0,g1,g2,g3,c0,c1,c2,c3,rfl,⟨l0,l1,l2,l3⟩,m0,m1,m2,m3⟩:=newVm_open hO
 unfold maxLen at m0 m1 m2 m3
 have uX:S4.val ((some ⟨g0,0,none⟩,3,c0),(some ⟨g1,0,none⟩,4,c1),(some ⟨g2,0,none⟩,2,c2),(some ⟨g3,0,none⟩,6,c3))=.agg #[.slice (some ⟨g0,0,none⟩) 3 c0,.slice (some ⟨g1,0,none⟩) 4 c1,.slice (some ⟨g2,0,none⟩) 2 c2,.slice (some ⟨g3,0,none⟩) 6 c3]:=rfl
 rw [uX]
 clear uX
 replace hO:=hO.lower9 bw.size
 have bA:Below w1.heap.size w1 (w1.alloc (.cells #[.slice (some ⟨g0,0,none⟩) 3 c0,.slice (some ⟨g1,0,none⟩) 4 c1,.slice (some ⟨g2,0,none⟩) 2 c2,.slice (some ⟨g3,0,none⟩) 6 c3] 33)):=by go_grown
 have pS:=Blk.new w1 33 [.slice (some ⟨g0,0,none⟩) 3 c0,.slice (some ⟨g1,0,none⟩) 4 c1,.slice (some ⟨g2,0,none⟩) 2 c2,.slice (some ⟨g3,0,none⟩) 6 c3]
 have hgS:w.heap.size<w1.heap.size:=Nat.lt_of_lt_of_le (by simp) hb.size
 replace bw:=bel_trans bw (bel_trans hb bA)
 replace pR:=pR.below (bel_trans hb bA)
 replace hO:=hO.below bA
 clear hb bA kN
 go_wp2_with fail
 generalize (w1.alloc (.cells #[.slice (some ⟨g0,0,none⟩) 3 c0,.slice (some ⟨g1,0,none⟩) 4 c1,.slice (some ⟨g2,0,none⟩) 2 c2,.slice (some ⟨g3,0,none⟩) 6 c3] 33))=W1 at *
 generalize w1.heap.size=gS at *
 unfold zeroV at hO
 have neS0:=hO.1.1.ne9 pS (by decide)
 have neR0:=hO.1.1.ne9 pR (by decide)
 have neS1:=hO.1.2.1.ne9 pS (by decide)
 have neR1:=hO.1.2.1.ne9 pR (by decide)
 have neS2:=hO.1.2.2.1.ne9 pS (by decide)
 have neR2:=hO.1.2.2.1.ne9 pR (by decide)
 have neS3:=hO.1.2.2.2.ne9 pS (by decide)
 have neR3:=hO.1.2.2.2.ne9 pR (by decide)
 have e1:W1.cell? ⟨gS,1,none⟩=some (.slice (some ⟨g1,0,none⟩) 4 c1):=by simpa using pS.cell 1
 refine wp_region_held_drew (S:=(fun w'=>w'.cell? ⟨gS,1,none⟩=some (.slice (some ⟨g1,0,none⟩) 4 c1))) (by kernel_rfl) e1 (fun hS0=>?_)
 refine tkm 0 7 (.pointer (some ⟨gS,1,none⟩)) ?_
 refine tkm 1 8 (.slice (some ⟨g1,0,none⟩) 4 c1) ?_
 refine tkm 2 9 (.pointer (some ⟨g,0,none⟩)) ?_
 refine tkm 3 10 (.pointer (some ⟨g,0,none⟩)) ?_
 refine tkm 4 11 (.pointer (some ⟨g,12,none⟩)) ?_
 refine tkm 5 12 (.slice (some ⟨g,12,none⟩) 4 4) ?_
 obtain ⟨cur,hcur,hcl,hct,hcB,hcn,hcm⟩:=(hO.1.2.1).open9
 refine tkr 6 13 (fun K hK=>?_)
 refine step_copy_grown rfl _ _ 27 27 rfl 3 Tryz.underlying27 (by kernel_rfl) g1 0 ⟨g,12,none⟩ _ _ _ _ rfl rfl cur 3 hcur.drew [.int .i64 v0,.int .i64 v1,.int .i64 v2,.int .i64 v3] (.int .i64 4) rfl rfl (blk_src (hM.below (bel_trans bw (by go_grown))) (fun j v hj=>by match j,hj with | 0,hj=>exact hj | 1,hj=>exact hj | 2,hj=>exact hj | 3,hj=>exact hj | (j+4),hj=>simp at hj)) (by simp;omega) (by simp [Value.oneCell']) ?_
 intro W2 hB9 gr
 replace hO:=OwnV.into1 hO.drew9 gr (OwnI.spliced9 (zs':=[v0,v1,v2,v3]) hcl hct hcB hcn hcm hB9.out (by simp) rfl rfl)
 simp only at hO
 replace pS:=(pS.drew).kept gr (fun e=>neS1 (by simpa using e.symm))
 replace pR:=(pR.drew).kept gr (fun e=>neR1 (by simpa using e.symm))
 
 replace bw:=(bel_trans bw (by go_grown:Below W1.heap.size W1 W1.drew)).grown gr (by have:=bw.size;exact this) (fun x hx=>by cases hx;exact hcB)
 refine hK.out _ _ ?_ (fun hS1=>?_)
 ·exact by simpa using pS.cell 1
 clear hK hS0 hS1 hB9 gr hcur hcl hct hcB hcn hcm
 try simp only [Act.put,tka,tkb,tkc]
 refine wpAnyH_done (by kernel_rfl) ?_ _
 clear e1
 go_wp2_with fail
 have e1:W2.cell? ⟨gS,2,none⟩=some (.slice (some ⟨g2,0,none⟩) 2 c2):=by simpa using pS.cell 2
 refine wp_region_held_drew (S:=(fun w'=>w'.cell? ⟨gS,2,none⟩=some (.slice (some ⟨g2,0,none⟩) 2 c2))) (by kernel_rfl) e1 (fun hS0=>?_)
 refine tkm 0 14 (.pointer (some ⟨gS,2,none⟩)) ?_
 refine tkm 1 15 (.slice (some ⟨g2,0,none⟩) 2 c2) ?_
 refine tkm 2 16 (.pointer (some ⟨g,0,none⟩)) ?_
 refine tkm 3 17 (.pointer (some ⟨g,0,none⟩)) ?_
 refine tkm 4 18 (.pointer (some ⟨g,16,none⟩)) ?_
 refine tkm 5 19 (.slice (some ⟨g,16,none⟩) 2 2) ?_
 obtain ⟨cur,hcur,hcl,hct,hcB,hcn,hcm⟩:=(hO.1.2.2.1).open9
 refine tkr 6 20 (fun K hK=>?_)
 refine step_copy_grown rfl _ _ 27 27 rfl 3 Tryz.underlying27 (by kernel_rfl) g2 0 ⟨g,16,none⟩ _ _ _ _ rfl rfl cur 3 hcur.drew [.int .i64 h0,.int .i64 h1] (.int .i64 2) rfl rfl (blk_src (hM.below (bel_trans bw (by go_grown))) (fun j v hj=>by match j,hj with | 0,hj=>exact hj | 1,hj=>exact hj | (j+2),hj=>simp at hj)) (by simp;omega) (by simp [Value.oneCell']) ?_
 intro W3 hB9 gr
 replace hO:=OwnV.into2 hO.drew9 gr (OwnI.spliced9 (zs':=[h0,h1]) hcl hct hcB hcn hcm hB9.out (by simp) rfl rfl)
 simp only at hO
 replace pS:=(pS.drew).kept gr (fun e=>neS2 (by simpa using e.symm))
 replace pR:=(pR.drew).kept gr (fun e=>neR2 (by simpa using e.symm))
 
 replace bw:=(bel_trans bw (by go_grown:Below W2.heap.size W2 W2.drew)).grown gr (by have:=bw.size;exact this) (fun x hx=>by cases hx;exact hcB)
 refine hK.out _ _ ?_ (fun hS1=>?_)
 ·exact by simpa using pS.cell 2
 clear hK hS0 hS1 hB9 gr hcur hcl hct hcB hcn hcm
 try simp only [Act.put,tka,tkb,tkc]
 refine wpAnyH_done (by kernel_rfl) ?_ _
 clear e1
 have t0:=(hM.below bw).cell 0
 have t1:=(hM.below bw).cell 1
 have t2:=(hM.below bw).cell 2
 have t3:=(hM.below bw).cell 3
 have t4:=(hM.below bw).cell 4
 have t5:=(hM.below bw).cell 5
 have t6:=(hM.below bw).cell 6
 have t7:=(hM.below bw).cell 7
 have t8:=(hM.below bw).cell 8
 have t9:=(hM.below bw).cell 9
 have t10:=(hM.below bw).cell 10
 have t11:=(hM.below bw).cell 11
 simp only [List.getElem?_cons_zero,List.getElem?_cons_succ] at t0 t1 t2 t3 t4 t5 t6 t7 t8 t9 t10 t11
 obtain ⟨PM,q0,q1,q2,q3⟩:∃ PM:Nat→V4,Hid (PM 0=([0,0,0],[v0,v1,v2,v3],[h0,h1],[0,0,0,0,0,0]))∧Hid (PM 1=([p0,0,0],[v0,v1,v2,v3],[h0,h1],[x0,y0,0,0,0,0]))∧Hid (PM 2=([p0,p1,0],[v0,v1,v2,v3],[h0,h1],[x0,y0,x1,y1,0,0]))∧Hid (PM 3=([p0,p1,p2],[v0,v1,v2,v3],[h0,h1],[x0,y0,x1,y1,x2,y2])):=
  ⟨fun k=>if k=0 then ([0,0,0],[v0,v1,v2,v3],[h0,h1],[0,0,0,0,0,0]) else if k=1 then ([p0,0,0],[v0,v1,v2,v3],[h0,h1],[x0,y0,0,0,0,0]) else if k=2 then ([p0,p1,0],[v0,v1,v2,v3],[h0,h1],[x0,y0,x1,y1,0,0]) else ([p0,p1,p2],[v0,v1,v2,v3],[h0,h1],[x0,y0,x1,y1,x2,y2]),rfl,rfl,rfl,rfl⟩
 have i0:=idxT_0 (.slice da0 dn0 dc0) (.int .i64 p0) (.int .i64 x0) (.int .i64 y0) (.slice da1 dn1 dc1) (.int .i64 p1) (.int .i64 x1) (.int .i64 y1) (.slice da2 dn2 dc2) (.int .i64 p2) (.int .i64 x2) (.int .i64 y2)
 have i1:=idxT_1 (.slice da0 dn0 dc0) (.int .i64 p0) (.int .i64 x0) (.int .i64 y0) (.slice da1 dn1 dc1) (.int .i64 p1) (.int .i64 x1) (.int .i64 y1) (.slice da2 dn2 dc2) (.int .i64 p2) (.int .i64 x2) (.int .i64 y2)
 have i2:=idxT_2 (.slice da0 dn0 dc0) (.int .i64 p0) (.int .i64 x0) (.int .i64 y0) (.slice da1 dn1 dc1) (.int .i64 p1) (.int .i64 x1) (.int .i64 y1) (.slice da2 dn2 dc2) (.int .i64 p2) (.int .i64 x2) (.int .i64 y2)
 have hO3:OwnV W3 w.heap.size ((some ⟨g0,0,none⟩,3,c0),(some ⟨g1,0,none⟩,4,c1),(some ⟨g2,0,none⟩,2,c2),(some ⟨g3,0,none⟩,6,c3)) (PM 0):=by rw [q0.out];exact hO
 clear hO
 have hO:=hO3
 clear hO3
 go_wp2_with fail
 clear t0 t1 t2 t3 t4 t5 t6 t7 t8 t9 t10 t11
 go_loopw [25] (fun si wr=>∃ k:Nat,k≤3∧si=.int .i64 k∧OwnV wr w.heap.size ((some ⟨g0,0,none⟩,3,c0),(some ⟨g1,0,none⟩,4,c1),(some ⟨g2,0,none⟩,2,c2),(some ⟨g3,0,none⟩,6,c3)) (PM k)∧Blk wr gS 33 [.slice (some ⟨g0,0,none⟩) 3 c0,.slice (some ⟨g1,0,none⟩) 4 c1,.slice (some ⟨g2,0,none⟩) 2 c2,.slice (some ⟨g3,0,none⟩) 6 c3]∧Blk wr w.heap.size 33 [.slice none 0 0,.slice none 0 0,.slice none 0 0,.slice none 0 0]∧Below w.heap.size w wr) (fun si _=>3 - (intOf si).toNat)
 case atStart=>exact ⟨0,by omega,rfl,hO,pS,pR,bw⟩
 case round =>
  clear hO pS pR bw neS0 neS1 neS2 neS3 neR0 neR1 neR2 neR3
  obtain ⟨k,hk,rfl,hO,pS,pR,bw⟩:=hrel
  rcases (show k=0∨k=1∨k=2∨k=3 by omega) with rfl | rfl | rfl | rfl
  ·skip
   rw [q0.out] at hO
   have neS0:=hO.1.1.ne9 pS (by decide)
   have neR0:=hO.1.1.ne9 pR (by decide)
   have neS1:=hO.1.2.1.ne9 pS (by decide)
   have neR1:=hO.1.2.1.ne9 pR (by decide)
   have neS2:=hO.1.2.2.1.ne9 pS (by decide)
   have neR2:=hO.1.2.2.1.ne9 pR (by decide)
   have neS3:=hO.1.2.2.2.ne9 pS (by decide)
   have neR3:=hO.1.2.2.2.ne9 pR (by decide)
   have hold:wr.cell? ⟨g0,0,none⟩=some (.int .i64 0):=hO.1.1.at9 (by decide)
   have hfz:=hO.1.1.frz9 0
   have hlo:=hO.1.1.lo9
   have bA:Below wr.heap.size wr (wr.alloc (.cells #[.slice da0 dn0 dc0,.int .i64 p0,.int .i64 x0,.int .i64 y0] 85)):=by go_grown
   have pT:=Blk.new wr 85 [.slice da0 dn0 dc0,.int .i64 p0,.int .i64 x0,.int .i64 y0]
   have hold2:(wr.alloc (.cells #[.slice da0 dn0 dc0,.int .i64 p0,.int .i64 x0,.int .i64 y0] 85)).cell? ⟨g0,0,none⟩=some (.int .i64 0):=cells_kept bA _ _ hold
   have hfz2:(wr.alloc (.cells #[.slice da0 dn0 dc0,.int .i64 p0,.int .i64 x0,.int .i64 y0] 85)).frozen? ⟨g0,0,none⟩=false:=(hO.below bA).1.1.frz9 0
   have pS1:=pS.below bA
   have s0:(wr.alloc (.cells #[.slice da0 dn0 dc0,.int .i64 p0,.int .i64 x0,.int .i64 y0] 85)).cell? ⟨gS,0,none⟩=some (.slice (some ⟨g0,0,none⟩) 3 c0):=by simpa using pS1.cell 0
   have bS:Below (wr.setCell ⟨g0,0,none⟩ (.int .i64 p0)).heap.size (wr.setCell ⟨g0,0,none⟩ (.int .i64 p0)) ((wr.setCell ⟨g0,0,none⟩ (.int .i64 p0)).alloc (.cells #[.slice da0 dn0 dc0,.int .i64 p0,.int .i64 x0,.int .i64 y0] 85)):=by go_grown
   have hO2:=(hO.set0 0 p0).below bS
   simp only [List.set_cons_zero,List.set_cons_succ] at hO2
   have pT2:Blk ((wr.setCell ⟨g0,0,none⟩ (.int .i64 p0)).alloc (.cells #[.slice da0 dn0 dc0,.int .i64 p0,.int .i64 x0,.int .i64 y0] 85)) wr.heap.size 85 [.slice da0 dn0 dc0,.int .i64 p0,.int .i64 x0,.int .i64 y0]:=by
    have h9:=Blk.new (wr.setCell ⟨g0,0,none⟩ (.int .i64 p0)) 85 [.slice da0 dn0 dc0,.int .i64 p0,.int .i64 x0,.int .i64 y0]
    rwa [World.size_setCell] at h9
   have pS2:=(pS.off ⟨g0,0,none⟩ (.int .i64 p0) neS0).below bS
   have pR2:=(pR.off ⟨g0,0,none⟩ (.int .i64 p0) neR0).below bS
   have b2:=bel_trans (bw.setCell (p:=⟨g0,0,none⟩) hlo.1 (.int .i64 p0)) bS
   clear pS1
   go_wp2_with fail
   clear hold hfz hold2 hfz2 s0 bA hO pS pR bw bS pT
   generalize hWW:((wr.setCell ⟨g0,0,none⟩ (.int .i64 p0)).alloc (.cells #[.slice da0 dn0 dc0,.int .i64 p0,.int .i64 x0,.int .i64 y0] 85))=Wa at *
   have hgT:wr.heap.size<Wa.heap.size:=pT2.lt
   clear hWW
   generalize wr.heap.size=gT at *
   have hO:=hO2
   have pS:=pS2
   have pR:=pR2
   have bw:=b2
   have pT:=pT2
   clear hO2 pS2 pR2 b2 pT2
   have neT3:=hO.1.2.2.2.ne9 pT (by decide)
   have e1:Wa.cell? ⟨gS,3,none⟩=some (.slice (some ⟨g3,0,none⟩) 6 c3):=by simpa using pS.cell 3
   have hz:¬ c3=0:=by omega
   have hzi:(0:Int)≤(6:Int):=by decide
   refine wp_region_held_drew (S:=(fun w'=>w'.cell? ⟨gS,3,none⟩=some (.slice (some ⟨g3,0,none⟩) 6 c3))) (by kernel_rfl) e1 (fun hS0=>?_)
   refine tkm 0 35 (.pointer (some ⟨gS,3,none⟩)) ?_
   refine tkm 1 36 (.slice (some ⟨g3,0,none⟩) 6 c3) ?_
   refine tkm 2 37 (.int .i64 0) ?_
   refine tkm 3 38 (.int .i64 0) ?_
   refine tkm 4 39 (.slice (some ⟨g3,0,none⟩) 6 c3) ?_
   refine tkm 5 40 (.pointer (some ⟨gT,2,none⟩)) ?_
   refine tkm 6 41 (.slice (some ⟨gT,2,none⟩) 2 2) ?_
   obtain ⟨cur,hcur,hcl,hct,hcB,hcn,hcm⟩:=(hO.1.2.2.2).open9
   refine tkr 7 42 (fun K hK=>?_)
   refine step_copy_grown rfl _ _ 27 27 rfl 3 Tryz.underlying27 (by kernel_rfl) g3 0 ⟨gT,2,none⟩ _ _ _ _ rfl rfl cur 3 hcur.drew [.int .i64 x0,.int .i64 y0] (.int .i64 2) rfl rfl (blk_src pT.drew (fun j v hj=>by match j,hj with | 0,hj=>exact hj | 1,hj=>exact hj | (j+2),hj=>simp at hj)) (by simp;omega) (by simp [Value.oneCell']) ?_
   intro Wb hB9 gr
   replace hO:=OwnV.into3 hO.drew9 gr (OwnI.spliced9 (zs':=[x0,y0,0,0,0,0]) hcl hct hcB hcn hcm hB9.out (by simp) rfl rfl)
   simp only at hO
   replace pS:=(pS.drew).kept gr (fun e=>neS3 (by simpa using e.symm))
   replace pR:=(pR.drew).kept gr (fun e=>neR3 (by simpa using e.symm))
   
   replace bw:=(bel_trans bw (by go_grown:Below Wa.heap.size Wa Wa.drew)).grown gr (by have:=bw.size;exact this) (fun x hx=>by cases hx;exact hcB)
   refine hK.out _ _ ?_ (fun hS1=>?_)
   ·exact by simpa using pS.cell 3
   clear hK hS0 hS1 hB9 gr hcur hcl hct hcB hcn hcm
   try simp only [Act.put,tka,tkb,tkc]
   refine wpAnyH_done (by kernel_rfl) ?_ _
   rw [show ([p0,0,0],[v0,v1,v2,v3],[h0,h1],[x0,y0,0,0,0,0])=PM 1 from q1.out.symm] at hO
   clear e1 hz hzi pT
   go_wp2
   go_roundw
   case rel=>exact ⟨1,by omega,rfl,hO,pS,pR,bw⟩
   case measure=>simp [intOf]
  ·skip
   rw [q1.out] at hO
   have neS0:=hO.1.1.ne9 pS (by decide)
   have neR0:=hO.1.1.ne9 pR (by decide)
   have neS1:=hO.1.2.1.ne9 pS (by decide)
   have neR1:=hO.1.2.1.ne9 pR (by decide)
   have neS2:=hO.1.2.2.1.ne9 pS (by decide)
   have neR2:=hO.1.2.2.1.ne9 pR (by decide)
   have neS3:=hO.1.2.2.2.ne9 pS (by decide)
   have neR3:=hO.1.2.2.2.ne9 pR (by decide)
   have hold:wr.cell? ⟨g0,1,none⟩=some (.int .i64 0):=hO.1.1.at9 (by decide)
   have hfz:=hO.1.1.frz9 1
   have hlo:=hO.1.1.lo9
   have bA:Below wr.heap.size wr (wr.alloc (.cells #[.slice da1 dn1 dc1,.int .i64 p1,.int .i64 x1,.int .i64 y1] 85)):=by go_grown
   have pT:=Blk.new wr 85 [.slice da1 dn1 dc1,.int .i64 p1,.int .i64 x1,.int .i64 y1]
   have hold2:(wr.alloc (.cells #[.slice da1 dn1 dc1,.int .i64 p1,.int .i64 x1,.int .i64 y1] 85)).cell? ⟨g0,1,none⟩=some (.int .i64 0):=cells_kept bA _ _ hold
   have hfz2:(wr.alloc (.cells #[.slice da1 dn1 dc1,.int .i64 p1,.int .i64 x1,.int .i64 y1] 85)).frozen? ⟨g0,1,none⟩=false:=(hO.below bA).1.1.frz9 1
   have pS1:=pS.below bA
   have s0:(wr.alloc (.cells #[.slice da1 dn1 dc1,.int .i64 p1,.int .i64 x1,.int .i64 y1] 85)).cell? ⟨gS,0,none⟩=some (.slice (some ⟨g0,0,none⟩) 3 c0):=by simpa using pS1.cell 0
   have bS:Below (wr.setCell ⟨g0,1,none⟩ (.int .i64 p1)).heap.size (wr.setCell ⟨g0,1,none⟩ (.int .i64 p1)) ((wr.setCell ⟨g0,1,none⟩ (.int .i64 p1)).alloc (.cells #[.slice da1 dn1 dc1,.int .i64 p1,.int .i64 x1,.int .i64 y1] 85)):=by go_grown
   have hO2:=(hO.set0 1 p1).below bS
   simp only [List.set_cons_zero,List.set_cons_succ] at hO2
   have pT2:Blk ((wr.setCell ⟨g0,1,none⟩ (.int .i64 p1)).alloc (.cells #[.slice da1 dn1 dc1,.int .i64 p1,.int .i64 x1,.int .i64 y1] 85)) wr.heap.size 85 [.slice da1 dn1 dc1,.int .i64 p1,.int .i64 x1,.int .i64 y1]:=by
    have h9:=Blk.new (wr.setCell ⟨g0,1,none⟩ (.int .i64 p1)) 85 [.slice da1 dn1 dc1,.int .i64 p1,.int .i64 x1,.int .i64 y1]
    rwa [World.size_setCell] at h9
   have pS2:=(pS.off ⟨g0,1,none⟩ (.int .i64 p1) neS0).below bS
   have pR2:=(pR.off ⟨g0,1,none⟩ (.int .i64 p1) neR0).below bS
   have b2:=bel_trans (bw.setCell (p:=⟨g0,1,none⟩) hlo.1 (.int .i64 p1)) bS
   clear pS1
   go_wp2_with fail
   clear hold hfz hold2 hfz2 s0 bA hO pS pR bw bS pT
   generalize hWW:((wr.setCell ⟨g0,1,none⟩ (.int .i64 p1)).alloc (.cells #[.slice da1 dn1 dc1,.int .i64 p1,.int .i64 x1,.int .i64 y1] 85))=Wa at *
   have hgT:wr.heap.size<Wa.heap.size:=pT2.lt
   clear hWW
   generalize wr.heap.size=gT at *
   have hO:=hO2
   have pS:=pS2
   have pR:=pR2
   have bw:=b2
   have pT:=pT2
   clear hO2 pS2 pR2 b2 pT2
   have neT3:=hO.1.2.2.2.ne9 pT (by decide)
   have e1:Wa.cell? ⟨gS,3,none⟩=some (.slice (some ⟨g3,0,none⟩) 6 c3):=by simpa using pS.cell 3
   have hz:¬ c3=2:=by omega
   have hzi:(2:Int)≤(6:Int):=by decide
   refine wp_region_held_drew (S:=(fun w'=>w'.cell? ⟨gS,3,none⟩=some (.slice (some ⟨g3,0,none⟩) 6 c3))) (by kernel_rfl) e1 (fun hS0=>?_)
   refine tkm 0 35 (.pointer (some ⟨gS,3,none⟩)) ?_
   refine tkm 1 36 (.slice (some ⟨g3,0,none⟩) 6 c3) ?_
   refine tkm 2 37 (.int .i64 1) ?_
   refine tkm 3 38 (.int .i64 2) ?_
   refine tkm 4 39 (.slice (some ⟨g3,2,none⟩) 4 (c3 - 2)) ?_
   refine tkm 5 40 (.pointer (some ⟨gT,2,none⟩)) ?_
   refine tkm 6 41 (.slice (some ⟨gT,2,none⟩) 2 2) ?_
   obtain ⟨cur,hcur,hcl,hct,hcB,hcn,hcm⟩:=(hO.1.2.2.2).open9
   refine tkr 7 42 (fun K hK=>?_)
   refine step_copy_grown rfl _ _ 27 27 rfl 3 Tryz.underlying27 (by kernel_rfl) g3 2 ⟨gT,2,none⟩ _ _ _ _ rfl rfl cur 3 hcur.drew [.int .i64 x1,.int .i64 y1] (.int .i64 2) rfl rfl (blk_src pT.drew (fun j v hj=>by match j,hj with | 0,hj=>exact hj | 1,hj=>exact hj | (j+2),hj=>simp at hj)) (by simp;omega) (by simp [Value.oneCell']) ?_
   intro Wb hB9 gr
   replace hO:=OwnV.into3 hO.drew9 gr (OwnI.spliced9 (zs':=[x0,y0,x1,y1,0,0]) hcl hct hcB hcn hcm hB9.out (by simp) rfl rfl)
   simp only at hO
   replace pS:=(pS.drew).kept gr (fun e=>neS3 (by simpa using e.symm))
   replace pR:=(pR.drew).kept gr (fun e=>neR3 (by simpa using e.symm))
   
   replace bw:=(bel_trans bw (by go_grown:Below Wa.heap.size Wa Wa.drew)).grown gr (by have:=bw.size;exact this) (fun x hx=>by cases hx;exact hcB)
   refine hK.out _ _ ?_ (fun hS1=>?_)
   ·exact by simpa using pS.cell 3
   clear hK hS0 hS1 hB9 gr hcur hcl hct hcB hcn hcm
   try simp only [Act.put,tka,tkb,tkc]
   refine wpAnyH_done (by kernel_rfl) ?_ _
   rw [show ([p0,p1,0],[v0,v1,v2,v3],[h0,h1],[x0,y0,x1,y1,0,0])=PM 2 from q2.out.symm] at hO
   clear e1 hz hzi pT
   go_wp2
   go_roundw
   case rel=>exact ⟨2,by omega,rfl,hO,pS,pR,bw⟩
   case measure=>simp [intOf]
  ·skip
   rw [q2.out] at hO
   have neS0:=hO.1.1.ne9 pS (by decide)
   have neR0:=hO.1.1.ne9 pR (by decide)
   have neS1:=hO.1.2.1.ne9 pS (by decide)
   have neR1:=hO.1.2.1.ne9 pR (by decide)
   have neS2:=hO.1.2.2.1.ne9 pS (by decide)
   have neR2:=hO.1.2.2.1.ne9 pR (by decide)
   have neS3:=hO.1.2.2.2.ne9 pS (by decide)
   have neR3:=hO.1.2.2.2.ne9 pR (by decide)
   have hold:wr.cell? ⟨g0,2,none⟩=some (.int .i64 0):=hO.1.1.at9 (by decide)
   have hfz:=hO.1.1.frz9 2
   have hlo:=hO.1.1.lo9
   have bA:Below wr.heap.size wr (wr.alloc (.cells #[.slice da2 dn2 dc2,.int .i64 p2,.int .i64 x2,.int .i64 y2] 85)):=by go_grown
   have pT:=Blk.new wr 85 [.slice da2 dn2 dc2,.int .i64 p2,.int .i64 x2,.int .i64 y2]
   have hold2:(wr.alloc (.cells #[.slice da2 dn2 dc2,.int .i64 p2,.int .i64 x2,.int .i64 y2] 85)).cell? ⟨g0,2,none⟩=some (.int .i64 0):=cells_kept bA _ _ hold
   have hfz2:(wr.alloc (.cells #[.slice da2 dn2 dc2,.int .i64 p2,.int .i64 x2,.int .i64 y2] 85)).frozen? ⟨g0,2,none⟩=false:=(hO.below bA).1.1.frz9 2
   have pS1:=pS.below bA
   have s0:(wr.alloc (.cells #[.slice da2 dn2 dc2,.int .i64 p2,.int .i64 x2,.int .i64 y2] 85)).cell? ⟨gS,0,none⟩=some (.slice (some ⟨g0,0,none⟩) 3 c0):=by simpa using pS1.cell 0
   have bS:Below (wr.setCell ⟨g0,2,none⟩ (.int .i64 p2)).heap.size (wr.setCell ⟨g0,2,none⟩ (.int .i64 p2)) ((wr.setCell ⟨g0,2,none⟩ (.int .i64 p2)).alloc (.cells #[.slice da2 dn2 dc2,.int .i64 p2,.int .i64 x2,.int .i64 y2] 85)):=by go_grown
   have hO2:=(hO.set0 2 p2).below bS
   simp only [List.set_cons_zero,List.set_cons_succ] at hO2
   have pT2:Blk ((wr.setCell ⟨g0,2,none⟩ (.int .i64 p2)).alloc (.cells #[.slice da2 dn2 dc2,.int .i64 p2,.int .i64 x2,.int .i64 y2] 85)) wr.heap.size 85 [.slice da2 dn2 dc2,.int .i64 p2,.int .i64 x2,.int .i64 y2]:=by
    have h9:=Blk.new (wr.setCell ⟨g0,2,none⟩ (.int .i64 p2)) 85 [.slice da2 dn2 dc2,.int .i64 p2,.int .i64 x2,.int .i64 y2]
    rwa [World.size_setCell] at h9
   have pS2:=(pS.off ⟨g0,2,none⟩ (.int .i64 p2) neS0).below bS
   have pR2:=(pR.off ⟨g0,2,none⟩ (.int .i64 p2) neR0).below bS
   have b2:=bel_trans (bw.setCell (p:=⟨g0,2,none⟩) hlo.1 (.int .i64 p2)) bS
   clear pS1
   go_wp2_with fail
   clear hold hfz hold2 hfz2 s0 bA hO pS pR bw bS pT
   generalize hWW:((wr.setCell ⟨g0,2,none⟩ (.int .i64 p2)).alloc (.cells #[.slice da2 dn2 dc2,.int .i64 p2,.int .i64 x2,.int .i64 y2] 85))=Wa at *
   have hgT:wr.heap.size<Wa.heap.size:=pT2.lt
   clear hWW
   generalize wr.heap.size=gT at *
   have hO:=hO2
   have pS:=pS2
   have pR:=pR2
   have bw:=b2
   have pT:=pT2
   clear hO2 pS2 pR2 b2 pT2
   have neT3:=hO.1.2.2.2.ne9 pT (by decide)
   have e1:Wa.cell? ⟨gS,3,none⟩=some (.slice (some ⟨g3,0,none⟩) 6 c3):=by simpa using pS.cell 3
   have hz:¬ c3=4:=by omega
   have hzi:(4:Int)≤(6:Int):=by decide
   refine wp_region_held_drew (S:=(fun w'=>w'.cell? ⟨gS,3,none⟩=some (.slice (some ⟨g3,0,none⟩) 6 c3))) (by kernel_rfl) e1 (fun hS0=>?_)
   refine tkm 0 35 (.pointer (some ⟨gS,3,none⟩)) ?_
   refine tkm 1 36 (.slice (some ⟨g3,0,none⟩) 6 c3) ?_
   refine tkm 2 37 (.int .i64 2) ?_
   refine tkm 3 38 (.int .i64 4) ?_
   refine tkm 4 39 (.slice (some ⟨g3,4,none⟩) 2 (c3 - 4)) ?_
   refine tkm 5 40 (.pointer (some ⟨gT,2,none⟩)) ?_
   refine tkm 6 41 (.slice (some ⟨gT,2,none⟩) 2 2) ?_
   obtain ⟨cur,hcur,hcl,hct,hcB,hcn,hcm⟩:=(hO.1.2.2.2).open9
   refine tkr 7 42 (fun K hK=>?_)
   refine step_copy_grown rfl _ _ 27 27 rfl 3 Tryz.underlying27 (by kernel_rfl) g3 4 ⟨gT,2,none⟩ _ _ _ _ rfl rfl cur 3 hcur.drew [.int .i64 x2,.int .i64 y2] (.int .i64 2) rfl rfl (blk_src pT.drew (fun j v hj=>by match j,hj with | 0,hj=>exact hj | 1,hj=>exact hj | (j+2),hj=>simp at hj)) (by simp;omega) (by simp [Value.oneCell']) ?_
   intro Wb hB9 gr
   replace hO:=OwnV.into3 hO.drew9 gr (OwnI.spliced9 (zs':=[x0,y0,x1,y1,x2,y2]) hcl hct hcB hcn hcm hB9.out (by simp) rfl rfl)
   simp only at hO
   replace pS:=(pS.drew).kept gr (fun e=>neS3 (by simpa using e.symm))
   replace pR:=(pR.drew).kept gr (fun e=>neR3 (by simpa using e.symm))
   
   replace bw:=(bel_trans bw (by go_grown:Below Wa.heap.size Wa Wa.drew)).grown gr (by have:=bw.size;exact this) (fun x hx=>by cases hx;exact hcB)
   refine hK.out _ _ ?_ (fun hS1=>?_)
   ·exact by simpa using pS.cell 3
   clear hK hS0 hS1 hB9 gr hcur hcl hct hcB hcn hcm
   try simp only [Act.put,tka,tkb,tkc]
   refine wpAnyH_done (by kernel_rfl) ?_ _
   rw [show ([p0,p1,p2],[v0,v1,v2,v3],[h0,h1],[x0,y0,x1,y1,x2,y2])=PM 3 from q3.out.symm] at hO
   clear e1 hz hzi pT
   go_wp2
   go_roundw
   case rel=>exact ⟨3,by omega,rfl,hO,pS,pR,bw⟩
   case measure=>simp [intOf]
  ·go_wp2_with (first | refine wpList_load_blk rfl 33 _ rfl gS rfl pS _ Tryz.underlying33 rfl (by kernel_rfl) ?_ | refine wpList_store_blk rfl 33 _ _ rfl w.heap.size [.slice (some ⟨g0,0,none⟩) 3 c0,.slice (some ⟨g1,0,none⟩) 4 c1,.slice (some ⟨g2,0,none⟩) 2 c2,.slice (some ⟨g3,0,none⟩) 6 c3] rfl rfl pR (by kernel_rfl) rfl rfl ?_)
   intro w9 pR9 g9
   replace bw:=bw.grown g9 bw.size (fun k hk=>by cases hk;omega)
   replace hO:=hO.kept9 g9 pR (by decide)
   clear g9 pR pS
   go_wp2_with fail
   refine bodyPost_ret (results_blk1 Tryz.results59 _ _ _ _ _ _ rfl pR9.out Tryz.underlying33 rfl (by kernel_rfl)) rfl ?_
   rw [q3.out] at hO
   exact ⟨VmOne.mk9 ((some ⟨g0,0,none⟩,3,c0),(some ⟨g1,0,none⟩,4,c1),(some ⟨g2,0,none⟩,2,c2),(some ⟨g3,0,none⟩,6,c3)) rfl hO,bw⟩

theorem state_is {w:World} {g:Nat} {cs:Sl × Sl × Sl} {m:V4} (hM:Blk w g 89 (machCells cs.1.val cs.2.1.val cs.2.2.val m)) (hs:shapeOk m=true) :
  Calls Tryz.prog 59 #[.pointer (some ⟨g,0,none⟩)] w fun e w'=>VmOne e w' w.heap.size m∧Below w.heap.size w w':=by
 obtain ⟨p0,p1,p2,v0,v1,v2,v3,h0,h1,x0,y0,x1,y1,x2,y2,rfl⟩:=shape_lists hs
 exact state_raw g cs.1.1 cs.1.2.1 cs.1.2.2 cs.2.1.1 cs.2.1.2.1 cs.2.1.2.2 cs.2.2.1 cs.2.2.2.1 cs.2.2.2.2 p0 p1 p2 v0 v1 v2 v3 h0 h1 x0 y0 x1 y1 x2 y2 w hM


def stuckC (rows:List (List I3)) (m:V4):Int:=if progOk rows && shapeOk m then 0 else 1
theorem both_ok {rows:List (List I3)} {m:V4} (h:(progOk rows && shapeOk m)=true):progOk rows=true∧shapeOk m=true:=by simpa using h

end Go.Proofs.YtifoggpohlegmaaGreatDoor
