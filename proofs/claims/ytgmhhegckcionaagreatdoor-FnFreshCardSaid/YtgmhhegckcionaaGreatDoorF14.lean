/-
  Joined: SpecP.
-/
import Derived.Test.YtgmhhegckcionaaGreatDoorF06
import Derived.Test.YtgmhhegckcionaaGreatDoorF09
import Derived.Test.YtgmhhegckcionaaGreatDoorF13

namespace Go.Proofs.YtgmhhegckcionaaGreatDoor
set_option maxRecDepth 100000
set_option maxHeartbeats 16000000
open Go.RowKit
set_option linter.unusedVariables false
set_option linter.unusedSimpArgs false

theorem Gp {w:World} {B:Nat} {t:S4} {m:V4} (h:Z3 w B t m) (hL:VZ m):∃ g0 g1 g2 g3 k0 k1 k2 k3,t=((some ⟨g0,0,none⟩,3,k0),(some ⟨g1,0,none⟩,4,k1),(some ⟨g2,0,none⟩,2,k2),(some ⟨g3,0,none⟩,6,k3)):=by
 obtain ⟨s0,s1,s2,s3⟩:=t
 obtain ⟨⟨o0,o1,o2,o3⟩,_⟩:=h
 obtain ⟨g0,c0,e0,_⟩:=o0.some9 (k:=3) hL.1 (by decide)
 obtain ⟨g1,c1,e1,_⟩:=o1.some9 (k:=4) hL.2.1 (by decide)
 obtain ⟨g2,c2,e2,_⟩:=o2.some9 (k:=2) hL.2.2.1 (by decide)
 obtain ⟨g3,c3,e3,_⟩:=o3.some9 (k:=6) hL.2.2.2 (by decide)
 simp only at e0 e1 e2 e3
 exact ⟨g0,g1,g2,g3,c0,c1,c2,c3,by rw [e0,e1,e2,e3]⟩
theorem Blk.away9 {w:World} {g t X j:Nat} {cs:List Value} (h:Blk w g t cs) (v:Value) (hp:g≠X):Blk (w.setCell ⟨X,j,none⟩ v) g t cs:=h.off ⟨X,j,none⟩ v hp

inductive Ls3 (k p:Nat) (m:V4):Int→Int→Int→V4→Int→Prop
 | load (a q r:Nat) (vv:Int) (hr6:r<6) (hri:(k:Int)*2+(a:Int)=(r:Int)) (hq:q<4) (hvv:m.2.1.getD q 0=vv):Ls3 k p m 1 a q (m.1.set k ((p:Int)+1),m.2.1,m.2.2.1,m.2.2.2.set r vv) 0
 | store (a q r:Nat) (vv:Int) (hr6:r<6) (hri:(k:Int)*2+(a:Int)=(r:Int)) (hq:q<4) (hvv:m.2.2.2.getD r 0=vv):Ls3 k p m 2 q a (m.1.set k ((p:Int)+1),m.2.1.set q vv,m.2.2.1,m.2.2.2) 0
 | set (a r:Nat) (z:Int) (hr6:r<6) (hri:(k:Int)*2+(a:Int)=(r:Int)):Ls3 k p m 3 a z (m.1.set k ((p:Int)+1),m.2.1,m.2.2.1,m.2.2.2.set r z) 0
 | add (a r:Nat) (z vv t:Int) (hr6:r<6) (hri:(k:Int)*2+(a:Int)=(r:Int)) (hvv:m.2.2.2.getD r 0=vv) (hz:0≤z∧z≤9) (hv9:0≤vv∧vv≤9) (ht:(vv+z) % 10=t):Ls3 k p m 4 a z (m.1.set k ((p:Int)+1),m.2.1,m.2.2.1,m.2.2.2.set r t) 0
 | lock (a:Nat) (z:Int) (ha:a<2):Ls3 k p m 5 a z (m.1.set k ((p:Int)+1),m.2.1,m.2.2.1.set a ((k:Int)+1),m.2.2.2) 0
 | unlock_yes (a:Nat) (z:Int) (ha:a<2) (hv:m.2.2.1.getD a 0=(k:Int)+1):Ls3 k p m 6 a z (m.1.set k ((p:Int)+1),m.2.1,m.2.2.1.set a 0,m.2.2.2) 0
 | unlock_no (a:Nat) (z hh:Int) (ha:a<2) (hvv:m.2.2.1.getD a 0=hh) (hv:hh≠(k:Int)+1):Ls3 k p m 6 a z (m.1.set k ((p:Int)+1),m.2) 13
 | stay (a r:Nat) (z:Int) (hr6:r<6) (hri:(k:Int)*2+(a:Int)=(r:Int)) (hvv:m.2.2.2.getD r 0=0):Ls3 k p m 7 a z (m.1.set k ((p:Int)+1),m.2) 0
 | jump (a r:Nat) (z vv:Int) (hr6:r<6) (hri:(k:Int)*2+(a:Int)=(r:Int)) (hvv:m.2.2.2.getD r 0=vv) (hv0:vv≠0):Ls3 k p m 7 a z (m.1.set k z,m.2) 0
 | assert_yes (a r:Nat) (z:Int) (hr6:r<6) (hri:(k:Int)*2+(a:Int)=(r:Int)) (hvv:m.2.2.2.getD r 0=z):Ls3 k p m 8 a z (m.1.set k ((p:Int)+1),m.2) 0
 | assert_no (a r:Nat) (z vv:Int) (hr6:r<6) (hri:(k:Int)*2+(a:Int)=(r:Int)) (hvv:m.2.2.2.getD r 0=vv) (hv0:vv≠z):Ls3 k p m 8 a z (m.1.set k ((p:Int)+1),m.2) 12

theorem Xf (b off len cap b0 o0 c0 b1 o1 c1 b2 o2 c2 b3 o3 c3 k cb co cn cc p:Nat) (m:V4) (w:World) (hk:k<3) (hlen:len=3) (hp:p<cn) (hp6:p≤6) (hs:Zc m=true) (hMm:Xd w ((some ⟨b0,o0,none⟩,3,c0),(some ⟨b1,o1,none⟩,4,c1),(some ⟨b2,o2,none⟩,2,c2),(some ⟨b3,o3,none⟩,6,c3)) m) (hpc:m.1.getD k 0=p)     (e0:w.cell? ⟨b,off+k,none⟩=some (.slice (some ⟨cb,co,none⟩) cn cc)) (e1:w.cell? ⟨b0,o0+k,none⟩=some (.int .i64 p)) (z0 z1 z2:Int) (R:V4) (cd:Int) (q0:w.cell? ⟨cb,co+p*3,none⟩=some (.int .i64 z0)) (q1:w.cell? ⟨cb,co+p*3+1,none⟩=some (.int .i64 z1)) (q2:w.cell? ⟨cb,co+p*3+2,none⟩=some (.int .i64 z2)) (hz:Ls3 k p m z0 z1 z2 R cd) :
  Calls Tryz.prog 120 #[.agg #[.slice (some ⟨b,off,none⟩) len cap],.agg #[.slice (some ⟨b0,o0,none⟩) 3 c0,.slice (some ⟨b1,o1,none⟩) 4 c1,.slice (some ⟨b2,o2,none⟩) 2 c2,.slice (some ⟨b3,o3,none⟩) 6 c3],.int .i64 k] w fun e w'=>Xy e w' w.heap.size R cd∧Below w.heap.size w w':=by
 have hL:=VZ.of hs
 have kO:=fun (W:World) (hb:Below w.heap.size w W)=>HJ ((some ⟨b0,o0,none⟩,3,c0),(some ⟨b1,o1,none⟩,4,c1),(some ⟨b2,o2,none⟩,2,c2),(some ⟨b3,o3,none⟩,6,c3)) m W (hMm.below hb) hs
 have uA:S4.val ((some ⟨b0,o0,none⟩,3,c0),(some ⟨b1,o1,none⟩,4,c1),(some ⟨b2,o2,none⟩,2,c2),(some ⟨b3,o3,none⟩,6,c3))=.agg #[.slice (some ⟨b0,o0,none⟩) 3 c0,.slice (some ⟨b1,o1,none⟩) 4 c1,.slice (some ⟨b2,o2,none⟩) 2 c2,.slice (some ⟨b3,o3,none⟩) 6 c3]:=rfl
 rw [uA] at kO
 clear uA
 have hk3:(k:Int)<3:=by omega
 have hkl:(k:Int)<(len:Int):=by omega
 have hpn:(p:Int)<(cn:Int):=by omega
 clear hlen
 have bw:Below w.heap.size w (((w.alloc (.cells #[.slice (some ⟨b,off,none⟩) len cap] 25)).alloc (.cells #[.slice (some ⟨b0,o0,none⟩) 3 c0,.slice (some ⟨b1,o1,none⟩) 4 c1,.slice (some ⟨b2,o2,none⟩) 2 c2,.slice (some ⟨b3,o3,none⟩) 6 c3] 88)).alloc (.cells #[.slice none 0 0,.slice none 0 0,.slice none 0 0,.slice none 0 0] 88)):=by go_grown
 have pP:Blk (((w.alloc (.cells #[.slice (some ⟨b,off,none⟩) len cap] 25)).alloc (.cells #[.slice (some ⟨b0,o0,none⟩) 3 c0,.slice (some ⟨b1,o1,none⟩) 4 c1,.slice (some ⟨b2,o2,none⟩) 2 c2,.slice (some ⟨b3,o3,none⟩) 6 c3] 88)).alloc (.cells #[.slice none 0 0,.slice none 0 0,.slice none 0 0,.slice none 0 0] 88)) w.heap.size 25 [.slice (some ⟨b,off,none⟩) len cap]:=Zl _ (Zl _ (Zj _ _ _ rfl))
 have pS:Blk (((w.alloc (.cells #[.slice (some ⟨b,off,none⟩) len cap] 25)).alloc (.cells #[.slice (some ⟨b0,o0,none⟩) 3 c0,.slice (some ⟨b1,o1,none⟩) 4 c1,.slice (some ⟨b2,o2,none⟩) 2 c2,.slice (some ⟨b3,o3,none⟩) 6 c3] 88)).alloc (.cells #[.slice none 0 0,.slice none 0 0,.slice none 0 0,.slice none 0 0] 88)) (w.heap.size+1) 88 [.slice (some ⟨b0,o0,none⟩) 3 c0,.slice (some ⟨b1,o1,none⟩) 4 c1,.slice (some ⟨b2,o2,none⟩) 2 c2,.slice (some ⟨b3,o3,none⟩) 6 c3]:=Zl _ (Zj _ _ _ (by simp))
 have pR:Blk (((w.alloc (.cells #[.slice (some ⟨b,off,none⟩) len cap] 25)).alloc (.cells #[.slice (some ⟨b0,o0,none⟩) 3 c0,.slice (some ⟨b1,o1,none⟩) 4 c1,.slice (some ⟨b2,o2,none⟩) 2 c2,.slice (some ⟨b3,o3,none⟩) 6 c3] 88)).alloc (.cells #[.slice none 0 0,.slice none 0 0,.slice none 0 0,.slice none 0 0] 88)) (w.heap.size+1+1) 88 [.slice none 0 0,.slice none 0 0,.slice none 0 0,.slice none 0 0]:=Zj _ _ _ (by simp)
 replace e0:=Za bw _ _ e0
 replace e1:=Za bw _ _ e1
 replace q0:=Za bw _ _ q0
 replace q1:=Za bw _ _ q1
 replace q2:=Za bw _ _ q2
 go_enter Tryz.func120,Tryz.ntmps120
 go_wp2_with fail
 generalize (((w.alloc (.cells #[.slice (some ⟨b,off,none⟩) len cap] 25)).alloc (.cells #[.slice (some ⟨b0,o0,none⟩) 3 c0,.slice (some ⟨b1,o1,none⟩) 4 c1,.slice (some ⟨b2,o2,none⟩) 2 c2,.slice (some ⟨b3,o3,none⟩) 6 c3] 88)).alloc (.cells #[.slice none 0 0,.slice none 0 0,.slice none 0 0,.slice none 0 0] 88))=W0 at *
 have d0:=pP.cell 0
 have d1:=pS.cell 0
 simp only [List.getElem?_cons_zero] at d0 d1
 refine wp_region_held_drew (S:=(fun w'=>w'.cell? ⟨w.heap.size,0,none⟩=some (.slice (some ⟨b,off,none⟩) len cap)∧w'.cell? ⟨w.heap.size+1,0,none⟩=some (.slice (some ⟨b0,o0,none⟩) 3 c0)∧w'.cell? ⟨b,off+k,none⟩=some (.slice (some ⟨cb,co,none⟩) cn cc)∧w'.cell? ⟨b0,o0+k,none⟩=some (.int .i64 p)∧w'.cell? ⟨cb,co+p*3,none⟩=some (.int .i64 z0)∧w'.cell? ⟨cb,co+p*3+1,none⟩=some (.int .i64 z1)∧w'.cell? ⟨cb,co+p*3+2,none⟩=some (.int .i64 z2))) (by kernel_rfl) ⟨d0,d1,e0,e1,q0,q1,q2⟩ (fun hS0=>?_)
 refine tkm 0 10 (.pointer (some ⟨w.heap.size,0,none⟩)) ?_
 refine tkm 1 11 (.slice (some ⟨b,off,none⟩) len cap) ?_
 refine tkm 2 12 (.int .i64 k) ?_
 refine tkm 3 13 (.pointer (some ⟨b,off+k,none⟩)) ?_
 refine tkm 4 14 (.slice (some ⟨cb,co,none⟩) cn cc) ?_
 refine tkm 5 15 (.pointer (some ⟨w.heap.size+1,0,none⟩)) ?_
 refine tkm 6 16 (.slice (some ⟨b0,o0,none⟩) 3 c0) ?_
 refine tkm 7 17 (.int .i64 k) ?_
 refine tkm 8 18 (.pointer (some ⟨b0,o0+k,none⟩)) ?_
 refine tkm 9 19 (.int .i64 p) ?_
 refine tkm 10 20 (.pointer (some ⟨cb,co+p*3,none⟩)) ?_
 refine tkm 11 21 (.agg #[.int .i64 z0,.int .i64 z1,.int .i64 z2]) ?_
 refine tkr 12 8 (fun K hK=>?_)
 have hal:Below W0.drew.heap.size W0.drew (W0.drew.alloc (.cells #[.int .i64 0,.int .i64 0,.int .i64 0] 122)):=by go_grown
 go_simp
 refine hK.out _ _ ?_ (fun hS1=>?_)
 ·exact ⟨Za hal _ _ hS0.1,Za hal _ _ hS0.2.1,Za hal _ _ hS0.2.2.1,Za hal _ _ hS0.2.2.2.1,Za hal _ _ hS0.2.2.2.2.1,Za hal _ _ hS0.2.2.2.2.2.1,Za hal _ _ hS0.2.2.2.2.2.2⟩
 clear hK
 try simp only [Act.put,tka,tkb,tkc]
 refine tkz 13 (fun K hK=>?_)
 have hal2:Below W0.drew.heap.size W0.drew (W0.drew.alloc (.cells #[.int .i64 z0,.int .i64 z1,.int .i64 z2] 122)):=by go_grown
 go_simp
 refine hK.out _ _ ?_ (fun hS2=>?_)
 ·exact ⟨Za hal2 _ _ hS0.1,Za hal2 _ _ hS0.2.1,Za hal2 _ _ hS0.2.2.1,Za hal2 _ _ hS0.2.2.2.1,Za hal2 _ _ hS0.2.2.2.2.1,Za hal2 _ _ hS0.2.2.2.2.2.1,Za hal2 _ _ hS0.2.2.2.2.2.2⟩
 clear hK
 try simp only [Act.put,tka,tkb,tkc]
 refine wpAnyH_done (by kernel_rfl) ?_ _
 clear hal hal2 hS0 hS1 hS2 e0 e1 q0 q1 q2 d0 d1
 have bx:Below W0.heap.size W0 (W0.alloc (.cells #[.int .i64 z0,.int .i64 z1,.int .i64 z2] 122)).drew:=by go_grown
 have pX:Blk (W0.alloc (.cells #[.int .i64 z0,.int .i64 z1,.int .i64 z2] 122)).drew W0.heap.size 122 [.int .i64 z0,.int .i64 z1,.int .i64 z2]:=Blk.new W0 122 [.int .i64 z0,.int .i64 z1,.int .i64 z2]
 have hgX:=pR.lt
 replace bw:=Zb bw bx
 replace pS:=pS.below bx
 replace pR:=pR.below bx
 clear bx pP
 generalize (W0.alloc (.cells #[.int .i64 z0,.int .i64 z1,.int .i64 z2] 122)).drew=W1 at *
 generalize W0.heap.size=gX at *
 have kO1:=kO W1 bw
 clear kO
 go_wp2_with (refine Zd rfl 88 _ rfl (w.heap.size+1) rfl pS _ Tryz.underlying88 rfl (by kernel_rfl) ?_)
 refine kO1.mono ?_
 rintro e w2 ⟨⟨t,rfl,hO⟩,hb⟩
 clear kO1
 obtain ⟨g0,g1,g2,g3,k0,k1,k2,k3,rfl⟩:=Gp hO hL
 have uX:S4.val ((some ⟨g0,0,none⟩,3,k0),(some ⟨g1,0,none⟩,4,k1),(some ⟨g2,0,none⟩,2,k2),(some ⟨g3,0,none⟩,6,k3))=.agg #[.slice (some ⟨g0,0,none⟩) 3 k0,.slice (some ⟨g1,0,none⟩) 4 k1,.slice (some ⟨g2,0,none⟩) 2 k2,.slice (some ⟨g3,0,none⟩) 6 k3]:=rfl
 rw [uX]
 clear uX
 replace hO:=hO.lower9 bw.size
 replace bw:=Zb bw hb
 replace pS:=pS.below hb
 replace pR:=pR.below hb
 replace pX:=pX.below hb
 clear hb
 go_wp2_with (refine Ze rfl 88 _ _ rfl (w.heap.size+1) [.slice (some ⟨g0,0,none⟩) 3 k0,.slice (some ⟨g1,0,none⟩) 4 k1,.slice (some ⟨g2,0,none⟩) 2 k2,.slice (some ⟨g3,0,none⟩) 6 k3] rfl rfl pS (by kernel_rfl) rfl rfl ?_)
 intro w3 pS3 gr
 replace bw:=bw.grown gr bw.size (fun x hx=>by cases hx;omega)
 replace hO:=hO.kept9 gr pS (by decide)
 replace pR:=pR.kept gr (by simp)
 replace pX:=pX.kept gr (by simp;omega)
 clear gr pS
 have pS:=pS3.out
 clear pS3
 have neS0:=hO.1.1.ne9 pS (by decide)
 have neR0:=hO.1.1.ne9 pR (by decide)
 have neX0:=hO.1.1.ne9 pX (by decide)
 have neS1:=hO.1.2.1.ne9 pS (by decide)
 have neR1:=hO.1.2.1.ne9 pR (by decide)
 have neS2:=hO.1.2.2.1.ne9 pS (by decide)
 have neR2:=hO.1.2.2.1.ne9 pR (by decide)
 have neS3:=hO.1.2.2.2.ne9 pS (by decide)
 have neR3:=hO.1.2.2.2.ne9 pR (by decide)
 have lo0:=hO.1.1.lo9.1
 have s0:w3.cell? ⟨w.heap.size+1,0,none⟩=some (.slice (some ⟨g0,0,none⟩) 3 k0):=by simpa using pS.cell 0
 have y0:w3.cell? ⟨g0,k,none⟩=some (.int .i64 (p:Int)):=(hO.1.1.at9 hk).trans (congrArg (fun z=>some (Value.int .i64 z)) hpc)
 have fz0:=hO.1.1.frz9 k
 have hO3:=hO.set0 k ((p:Int)+1)
 have pS3:=pS.away9 (j:=k) (.int .i64 ((p:Int)+1)) neS0
 have pR3:=pR.away9 (j:=k) (.int .i64 ((p:Int)+1)) neR0
 have pX3:=pX.away9 (j:=k) (.int .i64 ((p:Int)+1)) neX0
 have b3:=bw.setCell (p:=⟨g0,k,none⟩) lo0 (.int .i64 ((p:Int)+1))
 have hpw:IntKind.i64.wrap ((p:Int)+1)=(p:Int)+1:=IntWalk.i64_in _ (by omega)
 have hkw:IntKind.i64.wrap ((k:Int)*2)=(k:Int)*2:=IntWalk.i64_in _ (by omega)
 clear hO pS pR pX bw neS0 neR0 neX0
 have v0:=pS3.cell 0
 have v1:=pS3.cell 1
 have v2:=pS3.cell 2
 have v3:=pS3.cell 3
 have u0:=pX3.cell 0
 have u1:=pX3.cell 1
 have u2:=pX3.cell 2
 simp only [List.getElem?_cons_zero,List.getElem?_cons_succ] at v0 v1 v2 v3 u0 u1 u2
 cases hz with
 | load a q r vv hr6 hri hq hvv =>
  have hr6':(r:Int)<6:=by omega
  have hrw:IntKind.i64.wrap ((r:Int))=(r:Int):=IntWalk.i64_in _ (by omega)
  have hq4:(q:Int)<4:=by omega
  have r1:(w3.setCell ⟨g0,k,none⟩ (.int .i64 ((p:Int)+1))).cell? ⟨g1,q,none⟩=some (.int .i64 vv):=(hO3.1.2.1.at9 hq).trans (congrArg (fun z=>some (Value.int .i64 z)) hvv)
  obtain ⟨old,w0⟩:∃ u,(w3.setCell ⟨g0,k,none⟩ (.int .i64 ((p:Int)+1))).cell? ⟨g3,r,none⟩=some u:=⟨_,hO3.1.2.2.2.at9 hr6⟩
  have wf:=hO3.1.2.2.2.frz9 r
  have lo4:=hO3.1.2.2.2.lo9.1
  have hO4:=hO3.set3 r vv
  have pS4:=pS3.away9 (X:=g3) (j:=r) (.int .i64 vv) neS3
  have pR4:=pR3.away9 (X:=g3) (j:=r) (.int .i64 vv) neR3
  have b4:=b3.setCell (p:=⟨g3,r,none⟩) lo4 (.int .i64 vv)
  simp only at hO4
  clear hvv hO3 pS3 pR3 b3 pX3
  go_wp2_with fail
  generalize (w3.setCell ⟨g0,k,none⟩ (.int .i64 ((p:Int)+1)))=W3 at *
  go_region
  have hO5:Z3 (W3.setCell ⟨g3,r,none⟩ (.int .i64 vv)).drew w.heap.size ((some ⟨g0,0,none⟩,3,k0),(some ⟨g1,0,none⟩,4,k1),(some ⟨g2,0,none⟩,2,k2),(some ⟨g3,0,none⟩,6,k3)) _:=hO4
  have pS5:Blk (W3.setCell ⟨g3,r,none⟩ (.int .i64 vv)).drew (w.heap.size+1) 88 [.slice (some ⟨g0,0,none⟩) 3 k0,.slice (some ⟨g1,0,none⟩) 4 k1,.slice (some ⟨g2,0,none⟩) 2 k2,.slice (some ⟨g3,0,none⟩) 6 k3]:=pS4
  have pR5:Blk (W3.setCell ⟨g3,r,none⟩ (.int .i64 vv)).drew (w.heap.size+1+1) 88 [.slice none 0 0,.slice none 0 0,.slice none 0 0,.slice none 0 0]:=pR4
  have b5:Below w.heap.size w (W3.setCell ⟨g3,r,none⟩ (.int .i64 vv)).drew:=b4.drew
  clear hO4 pS4 pR4 b4 v0 v1 v2 v3 u0 u1 u2 s0 y0 fz0
  have hO4:=hO5
  have pS4:=pS5
  have pR4:=pR5
  have b4:=b5
  clear hO5 pS5 pR5 b5
  generalize (W3.setCell ⟨g3,r,none⟩ (.int .i64 vv)).drew=W4 at *
  go_wp2_with (first | refine Zd rfl 88 _ rfl (w.heap.size+1) rfl pS4 _ Tryz.underlying88 rfl (by kernel_rfl) ?_ | refine Ze rfl 88 _ _ rfl (w.heap.size+1+1) [.slice (some ⟨g0,0,none⟩) 3 k0,.slice (some ⟨g1,0,none⟩) 4 k1,.slice (some ⟨g2,0,none⟩) 2 k2,.slice (some ⟨g3,0,none⟩) 6 k3] rfl rfl pR4 (by kernel_rfl) rfl rfl ?_)
  intro w9 pR9 gr9
  replace b4:=b4.grown gr9 b4.size (fun x hx=>by cases hx;omega)
  replace hO4:=hO4.kept9 gr9 pR4 (by decide)
  clear gr9 pR4 pS4
  go_wp2_with fail
  refine bodyPost_ret (ZF Tryz.results120 _ _ _ _ _ _ rfl pR9.out Tryz.underlying88 rfl (by kernel_rfl)) rfl ?_
  exact ⟨Xy.mk9 ((some ⟨g0,0,none⟩,3,k0),(some ⟨g1,0,none⟩,4,k1),(some ⟨g2,0,none⟩,2,k2),(some ⟨g3,0,none⟩,6,k3)) rfl hO4,b4⟩
 | store a q r vv hr6 hri hq hvv =>
  have hr6':(r:Int)<6:=by omega
  have hrw:IntKind.i64.wrap ((r:Int))=(r:Int):=IntWalk.i64_in _ (by omega)
  have hq4:(q:Int)<4:=by omega
  have r1:(w3.setCell ⟨g0,k,none⟩ (.int .i64 ((p:Int)+1))).cell? ⟨g3,r,none⟩=some (.int .i64 vv):=(hO3.1.2.2.2.at9 hr6).trans (congrArg (fun z=>some (Value.int .i64 z)) hvv)
  obtain ⟨old,w0⟩:∃ u,(w3.setCell ⟨g0,k,none⟩ (.int .i64 ((p:Int)+1))).cell? ⟨g1,q,none⟩=some u:=⟨_,hO3.1.2.1.at9 hq⟩
  have wf:=hO3.1.2.1.frz9 q
  have lo4:=hO3.1.2.1.lo9.1
  have hO4:=hO3.set1 q vv
  have pS4:=pS3.away9 (X:=g1) (j:=q) (.int .i64 vv) neS1
  have pR4:=pR3.away9 (X:=g1) (j:=q) (.int .i64 vv) neR1
  have b4:=b3.setCell (p:=⟨g1,q,none⟩) lo4 (.int .i64 vv)
  simp only at hO4
  clear hvv hO3 pS3 pR3 b3 pX3
  go_wp2_with fail
  generalize (w3.setCell ⟨g0,k,none⟩ (.int .i64 ((p:Int)+1)))=W3 at *
  go_region
  have hO5:Z3 (W3.setCell ⟨g1,q,none⟩ (.int .i64 vv)).drew w.heap.size ((some ⟨g0,0,none⟩,3,k0),(some ⟨g1,0,none⟩,4,k1),(some ⟨g2,0,none⟩,2,k2),(some ⟨g3,0,none⟩,6,k3)) _:=hO4
  have pS5:Blk (W3.setCell ⟨g1,q,none⟩ (.int .i64 vv)).drew (w.heap.size+1) 88 [.slice (some ⟨g0,0,none⟩) 3 k0,.slice (some ⟨g1,0,none⟩) 4 k1,.slice (some ⟨g2,0,none⟩) 2 k2,.slice (some ⟨g3,0,none⟩) 6 k3]:=pS4
  have pR5:Blk (W3.setCell ⟨g1,q,none⟩ (.int .i64 vv)).drew (w.heap.size+1+1) 88 [.slice none 0 0,.slice none 0 0,.slice none 0 0,.slice none 0 0]:=pR4
  have b5:Below w.heap.size w (W3.setCell ⟨g1,q,none⟩ (.int .i64 vv)).drew:=b4.drew
  clear hO4 pS4 pR4 b4 v0 v1 v2 v3 u0 u1 u2 s0 y0 fz0
  have hO4:=hO5
  have pS4:=pS5
  have pR4:=pR5
  have b4:=b5
  clear hO5 pS5 pR5 b5
  generalize (W3.setCell ⟨g1,q,none⟩ (.int .i64 vv)).drew=W4 at *
  go_wp2_with (first | refine Zd rfl 88 _ rfl (w.heap.size+1) rfl pS4 _ Tryz.underlying88 rfl (by kernel_rfl) ?_ | refine Ze rfl 88 _ _ rfl (w.heap.size+1+1) [.slice (some ⟨g0,0,none⟩) 3 k0,.slice (some ⟨g1,0,none⟩) 4 k1,.slice (some ⟨g2,0,none⟩) 2 k2,.slice (some ⟨g3,0,none⟩) 6 k3] rfl rfl pR4 (by kernel_rfl) rfl rfl ?_)
  intro w9 pR9 gr9
  replace b4:=b4.grown gr9 b4.size (fun x hx=>by cases hx;omega)
  replace hO4:=hO4.kept9 gr9 pR4 (by decide)
  clear gr9 pR4 pS4
  go_wp2_with fail
  refine bodyPost_ret (ZF Tryz.results120 _ _ _ _ _ _ rfl pR9.out Tryz.underlying88 rfl (by kernel_rfl)) rfl ?_
  exact ⟨Xy.mk9 ((some ⟨g0,0,none⟩,3,k0),(some ⟨g1,0,none⟩,4,k1),(some ⟨g2,0,none⟩,2,k2),(some ⟨g3,0,none⟩,6,k3)) rfl hO4,b4⟩
 | set a r z hr6 hri =>
  obtain ⟨z,rfl⟩:∃ z,z=z2:=⟨_,rfl⟩
  have hr6':(r:Int)<6:=by omega
  have hrw:IntKind.i64.wrap ((r:Int))=(r:Int):=IntWalk.i64_in _ (by omega)
  obtain ⟨old,w0⟩:∃ u,(w3.setCell ⟨g0,k,none⟩ (.int .i64 ((p:Int)+1))).cell? ⟨g3,r,none⟩=some u:=⟨_,hO3.1.2.2.2.at9 hr6⟩
  have wf:=hO3.1.2.2.2.frz9 r
  have lo4:=hO3.1.2.2.2.lo9.1
  have hO4:=hO3.set3 r z
  have pS4:=pS3.away9 (X:=g3) (j:=r) (.int .i64 z) neS3
  have pR4:=pR3.away9 (X:=g3) (j:=r) (.int .i64 z) neR3
  have b4:=b3.setCell (p:=⟨g3,r,none⟩) lo4 (.int .i64 z)
  simp only at hO4
  clear  hO3 pS3 pR3 b3 pX3
  go_wp2_with (first | refine Zd rfl 88 _ rfl (w.heap.size+1) rfl pS4 _ Tryz.underlying88 rfl (by kernel_rfl) ?_ | refine Ze rfl 88 _ _ rfl (w.heap.size+1+1) [.slice (some ⟨g0,0,none⟩) 3 k0,.slice (some ⟨g1,0,none⟩) 4 k1,.slice (some ⟨g2,0,none⟩) 2 k2,.slice (some ⟨g3,0,none⟩) 6 k3] rfl rfl pR4 (by kernel_rfl) rfl rfl ?_)
  intro w9 pR9 gr9
  replace b4:=b4.grown gr9 b4.size (fun x hx=>by cases hx;omega)
  replace hO4:=hO4.kept9 gr9 pR4 (by decide)
  clear gr9 pR4 pS4
  go_wp2_with fail
  refine bodyPost_ret (ZF Tryz.results120 _ _ _ _ _ _ rfl pR9.out Tryz.underlying88 rfl (by kernel_rfl)) rfl ?_
  exact ⟨Xy.mk9 ((some ⟨g0,0,none⟩,3,k0),(some ⟨g1,0,none⟩,4,k1),(some ⟨g2,0,none⟩,2,k2),(some ⟨g3,0,none⟩,6,k3)) rfl hO4,b4⟩
 | add a r z vv t hr6 hri hvv hz hv9 ht =>
  obtain ⟨z,rfl⟩:∃ z,z=z2:=⟨_,rfl⟩
  have hr6':(r:Int)<6:=by omega
  have hrw:IntKind.i64.wrap ((r:Int))=(r:Int):=IntWalk.i64_in _ (by omega)
  have r1:(w3.setCell ⟨g0,k,none⟩ (.int .i64 ((p:Int)+1))).cell? ⟨g3,r,none⟩=some (.int .i64 vv):=(hO3.1.2.2.2.at9 hr6).trans (congrArg (fun z=>some (Value.int .i64 z)) hvv)
  obtain ⟨old,w0⟩:∃ u,(w3.setCell ⟨g0,k,none⟩ (.int .i64 ((p:Int)+1))).cell? ⟨g3,r,none⟩=some u:=⟨_,hO3.1.2.2.2.at9 hr6⟩
  have wf:=hO3.1.2.2.2.frz9 r
  have lo4:=hO3.1.2.2.2.lo9.1
  have hO4:=hO3.set3 r t
  have pS4:=pS3.away9 (X:=g3) (j:=r) (.int .i64 t) neS3
  have pR4:=pR3.away9 (X:=g3) (j:=r) (.int .i64 t) neR3
  have b4:=b3.setCell (p:=⟨g3,r,none⟩) lo4 (.int .i64 t)
  simp only at hO4
  have hw1:IntKind.i64.wrap (vv+z)=vv+z:=IntWalk.i64_in _ (by omega)
  have hw2:(vv+z).tmod 10=t:=by rw [← ht,Int.tmod_eq_emod_of_nonneg (by omega)]
  have hw3:IntKind.i64.wrap t=t:=IntWalk.i64_in _ (by omega)
  clear hvv hO3 pS3 pR3 b3 pX3
  go_wp2_with fail
  generalize (w3.setCell ⟨g0,k,none⟩ (.int .i64 ((p:Int)+1)))=W3 at *
  go_region
  have hO5:Z3 (W3.setCell ⟨g3,r,none⟩ (.int .i64 t)).drew w.heap.size ((some ⟨g0,0,none⟩,3,k0),(some ⟨g1,0,none⟩,4,k1),(some ⟨g2,0,none⟩,2,k2),(some ⟨g3,0,none⟩,6,k3)) _:=hO4
  have pS5:Blk (W3.setCell ⟨g3,r,none⟩ (.int .i64 t)).drew (w.heap.size+1) 88 [.slice (some ⟨g0,0,none⟩) 3 k0,.slice (some ⟨g1,0,none⟩) 4 k1,.slice (some ⟨g2,0,none⟩) 2 k2,.slice (some ⟨g3,0,none⟩) 6 k3]:=pS4
  have pR5:Blk (W3.setCell ⟨g3,r,none⟩ (.int .i64 t)).drew (w.heap.size+1+1) 88 [.slice none 0 0,.slice none 0 0,.slice none 0 0,.slice none 0 0]:=pR4
  have b5:Below w.heap.size w (W3.setCell ⟨g3,r,none⟩ (.int .i64 t)).drew:=b4.drew
  clear hO4 pS4 pR4 b4 v0 v1 v2 v3 u0 u1 u2 s0 y0 fz0
  have hO4:=hO5
  have pS4:=pS5
  have pR4:=pR5
  have b4:=b5
  clear hO5 pS5 pR5 b5
  generalize (W3.setCell ⟨g3,r,none⟩ (.int .i64 t)).drew=W4 at *
  go_wp2_with (first | refine Zd rfl 88 _ rfl (w.heap.size+1) rfl pS4 _ Tryz.underlying88 rfl (by kernel_rfl) ?_ | refine Ze rfl 88 _ _ rfl (w.heap.size+1+1) [.slice (some ⟨g0,0,none⟩) 3 k0,.slice (some ⟨g1,0,none⟩) 4 k1,.slice (some ⟨g2,0,none⟩) 2 k2,.slice (some ⟨g3,0,none⟩) 6 k3] rfl rfl pR4 (by kernel_rfl) rfl rfl ?_)
  intro w9 pR9 gr9
  replace b4:=b4.grown gr9 b4.size (fun x hx=>by cases hx;omega)
  replace hO4:=hO4.kept9 gr9 pR4 (by decide)
  clear gr9 pR4 pS4
  go_wp2_with fail
  refine bodyPost_ret (ZF Tryz.results120 _ _ _ _ _ _ rfl pR9.out Tryz.underlying88 rfl (by kernel_rfl)) rfl ?_
  exact ⟨Xy.mk9 ((some ⟨g0,0,none⟩,3,k0),(some ⟨g1,0,none⟩,4,k1),(some ⟨g2,0,none⟩,2,k2),(some ⟨g3,0,none⟩,6,k3)) rfl hO4,b4⟩
 | lock a z ha =>
  obtain ⟨z,rfl⟩:∃ z,z=z2:=⟨_,rfl⟩
  have ha2:(a:Int)<2:=by omega
  have hk1:IntKind.i64.wrap ((k:Int)+1)=(k:Int)+1:=IntWalk.i64_in _ (by omega)
  obtain ⟨old,w0⟩:∃ u,(w3.setCell ⟨g0,k,none⟩ (.int .i64 ((p:Int)+1))).cell? ⟨g2,a,none⟩=some u:=⟨_,hO3.1.2.2.1.at9 ha⟩
  have wf:=hO3.1.2.2.1.frz9 a
  have lo4:=hO3.1.2.2.1.lo9.1
  have hO4:=hO3.set2 a ((k:Int)+1)
  have pS4:=pS3.away9 (X:=g2) (j:=a) (.int .i64 ((k:Int)+1)) neS2
  have pR4:=pR3.away9 (X:=g2) (j:=a) (.int .i64 ((k:Int)+1)) neR2
  have b4:=b3.setCell (p:=⟨g2,a,none⟩) lo4 (.int .i64 ((k:Int)+1))
  simp only at hO4
  clear  hO3 pS3 pR3 b3 pX3
  go_wp2_with (first | refine Zd rfl 88 _ rfl (w.heap.size+1) rfl pS4 _ Tryz.underlying88 rfl (by kernel_rfl) ?_ | refine Ze rfl 88 _ _ rfl (w.heap.size+1+1) [.slice (some ⟨g0,0,none⟩) 3 k0,.slice (some ⟨g1,0,none⟩) 4 k1,.slice (some ⟨g2,0,none⟩) 2 k2,.slice (some ⟨g3,0,none⟩) 6 k3] rfl rfl pR4 (by kernel_rfl) rfl rfl ?_)
  intro w9 pR9 gr9
  replace b4:=b4.grown gr9 b4.size (fun x hx=>by cases hx;omega)
  replace hO4:=hO4.kept9 gr9 pR4 (by decide)
  clear gr9 pR4 pS4
  go_wp2_with fail
  refine bodyPost_ret (ZF Tryz.results120 _ _ _ _ _ _ rfl pR9.out Tryz.underlying88 rfl (by kernel_rfl)) rfl ?_
  exact ⟨Xy.mk9 ((some ⟨g0,0,none⟩,3,k0),(some ⟨g1,0,none⟩,4,k1),(some ⟨g2,0,none⟩,2,k2),(some ⟨g3,0,none⟩,6,k3)) rfl hO4,b4⟩
 | unlock_yes a z ha hv =>
  obtain ⟨z,rfl⟩:∃ z,z=z2:=⟨_,rfl⟩
  have ha2:(a:Int)<2:=by omega
  have hk1:IntKind.i64.wrap ((k:Int)+1)=(k:Int)+1:=IntWalk.i64_in _ (by omega)
  have r1:(w3.setCell ⟨g0,k,none⟩ (.int .i64 ((p:Int)+1))).cell? ⟨g2,a,none⟩=some (.int .i64 ((k:Int)+1)):=(hO3.1.2.2.1.at9 ha).trans (congrArg (fun z=>some (Value.int .i64 z)) hv)
  obtain ⟨old,w0_⟩:∃ u,(w3.setCell ⟨g0,k,none⟩ (.int .i64 ((p:Int)+1))).cell? ⟨g2,a,none⟩=some u:=⟨_,hO3.1.2.2.1.at9 ha⟩
  have wf:=hO3.1.2.2.1.frz9 a
  have lo4:=hO3.1.2.2.1.lo9.1
  have hO4:=hO3.set2 a 0
  have pS4:=pS3.away9 (X:=g2) (j:=a) (.int .i64 0) neS2
  have pR4:=pR3.away9 (X:=g2) (j:=a) (.int .i64 0) neR2
  have b4:=b3.setCell (p:=⟨g2,a,none⟩) lo4 (.int .i64 0)
  simp only at hO4
  have hn0:(((k:Int)+1) != ((k:Int)+1))=false:=by simp
  clear w0_
  clear hv hO3 pS3 pR3 b3 pX3
  go_wp2_with (first | refine Zd rfl 88 _ rfl (w.heap.size+1) rfl pS4 _ Tryz.underlying88 rfl (by kernel_rfl) ?_ | refine Ze rfl 88 _ _ rfl (w.heap.size+1+1) [.slice (some ⟨g0,0,none⟩) 3 k0,.slice (some ⟨g1,0,none⟩) 4 k1,.slice (some ⟨g2,0,none⟩) 2 k2,.slice (some ⟨g3,0,none⟩) 6 k3] rfl rfl pR4 (by kernel_rfl) rfl rfl ?_)
  intro w9 pR9 gr9
  replace b4:=b4.grown gr9 b4.size (fun x hx=>by cases hx;omega)
  replace hO4:=hO4.kept9 gr9 pR4 (by decide)
  clear gr9 pR4 pS4
  go_wp2_with fail
  refine bodyPost_ret (ZF Tryz.results120 _ _ _ _ _ _ rfl pR9.out Tryz.underlying88 rfl (by kernel_rfl)) rfl ?_
  exact ⟨Xy.mk9 ((some ⟨g0,0,none⟩,3,k0),(some ⟨g1,0,none⟩,4,k1),(some ⟨g2,0,none⟩,2,k2),(some ⟨g3,0,none⟩,6,k3)) rfl hO4,b4⟩
 | unlock_no a z hh ha hvv hv =>
  obtain ⟨z,rfl⟩:∃ z,z=z2:=⟨_,rfl⟩
  have ha2:(a:Int)<2:=by omega
  have hk1:IntKind.i64.wrap ((k:Int)+1)=(k:Int)+1:=IntWalk.i64_in _ (by omega)
  have r1:(w3.setCell ⟨g0,k,none⟩ (.int .i64 ((p:Int)+1))).cell? ⟨g2,a,none⟩=some (.int .i64 hh):=(hO3.1.2.2.1.at9 ha).trans (congrArg (fun z=>some (Value.int .i64 z)) hvv)
  have hn0:(hh != ((k:Int)+1))=true:=by simp [hv]
  have hO4:=hO3
  have pS4:=pS3
  have pR4:=pR3
  have b4:=b3
  clear hvv hO3 pS3 pR3 b3 pX3
  go_wp2_with (first | refine Zd rfl 88 _ rfl (w.heap.size+1) rfl pS4 _ Tryz.underlying88 rfl (by kernel_rfl) ?_ | refine Ze rfl 88 _ _ rfl (w.heap.size+1+1) [.slice (some ⟨g0,0,none⟩) 3 k0,.slice (some ⟨g1,0,none⟩) 4 k1,.slice (some ⟨g2,0,none⟩) 2 k2,.slice (some ⟨g3,0,none⟩) 6 k3] rfl rfl pR4 (by kernel_rfl) rfl rfl ?_)
  intro w9 pR9 gr9
  replace b4:=b4.grown gr9 b4.size (fun x hx=>by cases hx;omega)
  replace hO4:=hO4.kept9 gr9 pR4 (by decide)
  clear gr9 pR4 pS4
  go_wp2_with fail
  refine bodyPost_ret (ZF Tryz.results120 _ _ _ _ _ _ rfl pR9.out Tryz.underlying88 rfl (by kernel_rfl)) rfl ?_
  exact ⟨Xy.mk9 ((some ⟨g0,0,none⟩,3,k0),(some ⟨g1,0,none⟩,4,k1),(some ⟨g2,0,none⟩,2,k2),(some ⟨g3,0,none⟩,6,k3)) rfl hO4,b4⟩
 | stay a r z hr6 hri hvv =>
  obtain ⟨z,rfl⟩:∃ z,z=z2:=⟨_,rfl⟩
  have hr6':(r:Int)<6:=by omega
  have hrw:IntKind.i64.wrap ((r:Int))=(r:Int):=IntWalk.i64_in _ (by omega)
  have r1:(w3.setCell ⟨g0,k,none⟩ (.int .i64 ((p:Int)+1))).cell? ⟨g3,r,none⟩=some (.int .i64 0):=(hO3.1.2.2.2.at9 hr6).trans (congrArg (fun z=>some (Value.int .i64 z)) hvv)
  have hO4:=hO3
  have pS4:=pS3
  have pR4:=pR3
  have b4:=b3
  clear hvv hO3 pS3 pR3 b3 pX3
  go_wp2_with (first | refine Zd rfl 88 _ rfl (w.heap.size+1) rfl pS4 _ Tryz.underlying88 rfl (by kernel_rfl) ?_ | refine Ze rfl 88 _ _ rfl (w.heap.size+1+1) [.slice (some ⟨g0,0,none⟩) 3 k0,.slice (some ⟨g1,0,none⟩) 4 k1,.slice (some ⟨g2,0,none⟩) 2 k2,.slice (some ⟨g3,0,none⟩) 6 k3] rfl rfl pR4 (by kernel_rfl) rfl rfl ?_)
  intro w9 pR9 gr9
  replace b4:=b4.grown gr9 b4.size (fun x hx=>by cases hx;omega)
  replace hO4:=hO4.kept9 gr9 pR4 (by decide)
  clear gr9 pR4 pS4
  go_wp2_with fail
  refine bodyPost_ret (ZF Tryz.results120 _ _ _ _ _ _ rfl pR9.out Tryz.underlying88 rfl (by kernel_rfl)) rfl ?_
  exact ⟨Xy.mk9 ((some ⟨g0,0,none⟩,3,k0),(some ⟨g1,0,none⟩,4,k1),(some ⟨g2,0,none⟩,2,k2),(some ⟨g3,0,none⟩,6,k3)) rfl hO4,b4⟩
 | jump a r z vv hr6 hri hvv hv0 =>
  obtain ⟨z,rfl⟩:∃ z,z=z2:=⟨_,rfl⟩
  have hr6':(r:Int)<6:=by omega
  have hrw:IntKind.i64.wrap ((r:Int))=(r:Int):=IntWalk.i64_in _ (by omega)
  have r1:(w3.setCell ⟨g0,k,none⟩ (.int .i64 ((p:Int)+1))).cell? ⟨g3,r,none⟩=some (.int .i64 vv):=(hO3.1.2.2.2.at9 hr6).trans (congrArg (fun z=>some (Value.int .i64 z)) hvv)
  have hn0:(vv != 0)=true:=by simp [hv0]
  have neS0:=hO3.1.1.ne9 pS3 (by decide)
  have neR0:=hO3.1.1.ne9 pR3 (by decide)
  obtain ⟨old,w0⟩:∃ u,(w3.setCell ⟨g0,k,none⟩ (.int .i64 ((p:Int)+1))).cell? ⟨g0,k,none⟩=some u:=⟨_,hO3.1.1.at9 hk⟩
  have wf:=hO3.1.1.frz9 k
  have lo4:=hO3.1.1.lo9.1
  have hO4:=hO3.set0 k z
  have pS4:=pS3.away9 (X:=g0) (j:=k) (.int .i64 z) neS0
  have pR4:=pR3.away9 (X:=g0) (j:=k) (.int .i64 z) neR0
  have b4:=b3.setCell (p:=⟨g0,k,none⟩) lo4 (.int .i64 z)
  simp only at hO4
  simp only [List.set_set] at hO4
  clear hvv hO3 pS3 pR3 b3 pX3
  go_wp2_with (first | refine Zd rfl 88 _ rfl (w.heap.size+1) rfl pS4 _ Tryz.underlying88 rfl (by kernel_rfl) ?_ | refine Ze rfl 88 _ _ rfl (w.heap.size+1+1) [.slice (some ⟨g0,0,none⟩) 3 k0,.slice (some ⟨g1,0,none⟩) 4 k1,.slice (some ⟨g2,0,none⟩) 2 k2,.slice (some ⟨g3,0,none⟩) 6 k3] rfl rfl pR4 (by kernel_rfl) rfl rfl ?_)
  intro w9 pR9 gr9
  replace b4:=b4.grown gr9 b4.size (fun x hx=>by cases hx;omega)
  replace hO4:=hO4.kept9 gr9 pR4 (by decide)
  clear gr9 pR4 pS4
  go_wp2_with fail
  refine bodyPost_ret (ZF Tryz.results120 _ _ _ _ _ _ rfl pR9.out Tryz.underlying88 rfl (by kernel_rfl)) rfl ?_
  exact ⟨Xy.mk9 ((some ⟨g0,0,none⟩,3,k0),(some ⟨g1,0,none⟩,4,k1),(some ⟨g2,0,none⟩,2,k2),(some ⟨g3,0,none⟩,6,k3)) rfl hO4,b4⟩
 | assert_yes a r z hr6 hri hvv =>
  obtain ⟨z,rfl⟩:∃ z,z=z2:=⟨_,rfl⟩
  have hr6':(r:Int)<6:=by omega
  have hrw:IntKind.i64.wrap ((r:Int))=(r:Int):=IntWalk.i64_in _ (by omega)
  have r1:(w3.setCell ⟨g0,k,none⟩ (.int .i64 ((p:Int)+1))).cell? ⟨g3,r,none⟩=some (.int .i64 z):=(hO3.1.2.2.2.at9 hr6).trans (congrArg (fun z=>some (Value.int .i64 z)) hvv)
  have hn0:(z != z)=false:=by simp
  clear hvv pX3
  go_wp2_with fail
  generalize (w3.setCell ⟨g0,k,none⟩ (.int .i64 ((p:Int)+1)))=W3 at *
  go_quiet (fail)
  have hO4:Z3 (W3.drewN nq) w.heap.size ((some ⟨g0,0,none⟩,3,k0),(some ⟨g1,0,none⟩,4,k1),(some ⟨g2,0,none⟩,2,k2),(some ⟨g3,0,none⟩,6,k3)) _:=hO3
  have pS4:Blk (W3.drewN nq) (w.heap.size+1) 88 [.slice (some ⟨g0,0,none⟩) 3 k0,.slice (some ⟨g1,0,none⟩) 4 k1,.slice (some ⟨g2,0,none⟩) 2 k2,.slice (some ⟨g3,0,none⟩) 6 k3]:=pS3
  have pR4:Blk (W3.drewN nq) (w.heap.size+1+1) 88 [.slice none 0 0,.slice none 0 0,.slice none 0 0,.slice none 0 0]:=pR3
  have b4:Below w.heap.size w (W3.drewN nq):=Zb b3 (ZU _)
  clear hO3 pS3 pR3 b3 v0 v1 v2 v3 u0 u1 u2 s0 y0 fz0
  generalize W3.drewN nq=W4 at *
  go_wp2_with (first | refine Zd rfl 88 _ rfl (w.heap.size+1) rfl pS4 _ Tryz.underlying88 rfl (by kernel_rfl) ?_ | refine Ze rfl 88 _ _ rfl (w.heap.size+1+1) [.slice (some ⟨g0,0,none⟩) 3 k0,.slice (some ⟨g1,0,none⟩) 4 k1,.slice (some ⟨g2,0,none⟩) 2 k2,.slice (some ⟨g3,0,none⟩) 6 k3] rfl rfl pR4 (by kernel_rfl) rfl rfl ?_)
  intro w9 pR9 gr9
  replace b4:=b4.grown gr9 b4.size (fun x hx=>by cases hx;omega)
  replace hO4:=hO4.kept9 gr9 pR4 (by decide)
  clear gr9 pR4 pS4
  go_wp2_with fail
  refine bodyPost_ret (ZF Tryz.results120 _ _ _ _ _ _ rfl pR9.out Tryz.underlying88 rfl (by kernel_rfl)) rfl ?_
  exact ⟨Xy.mk9 ((some ⟨g0,0,none⟩,3,k0),(some ⟨g1,0,none⟩,4,k1),(some ⟨g2,0,none⟩,2,k2),(some ⟨g3,0,none⟩,6,k3)) rfl hO4,b4⟩
 | assert_no a r z vv hr6 hri hvv hv0 =>
  obtain ⟨z,rfl⟩:∃ z,z=z2:=⟨_,rfl⟩
  have hr6':(r:Int)<6:=by omega
  have hrw:IntKind.i64.wrap ((r:Int))=(r:Int):=IntWalk.i64_in _ (by omega)
  have r1:(w3.setCell ⟨g0,k,none⟩ (.int .i64 ((p:Int)+1))).cell? ⟨g3,r,none⟩=some (.int .i64 vv):=(hO3.1.2.2.2.at9 hr6).trans (congrArg (fun z=>some (Value.int .i64 z)) hvv)
  have hn0:(vv != z)=true:=by simp [hv0]
  clear hvv pX3
  go_wp2_with fail
  generalize (w3.setCell ⟨g0,k,none⟩ (.int .i64 ((p:Int)+1)))=W3 at *
  go_quiet (fail)
  have hO4:Z3 (W3.drewN nq) w.heap.size ((some ⟨g0,0,none⟩,3,k0),(some ⟨g1,0,none⟩,4,k1),(some ⟨g2,0,none⟩,2,k2),(some ⟨g3,0,none⟩,6,k3)) _:=hO3
  have pS4:Blk (W3.drewN nq) (w.heap.size+1) 88 [.slice (some ⟨g0,0,none⟩) 3 k0,.slice (some ⟨g1,0,none⟩) 4 k1,.slice (some ⟨g2,0,none⟩) 2 k2,.slice (some ⟨g3,0,none⟩) 6 k3]:=pS3
  have pR4:Blk (W3.drewN nq) (w.heap.size+1+1) 88 [.slice none 0 0,.slice none 0 0,.slice none 0 0,.slice none 0 0]:=pR3
  have b4:Below w.heap.size w (W3.drewN nq):=Zb b3 (ZU _)
  clear hO3 pS3 pR3 b3 v0 v1 v2 v3 u0 u1 u2 s0 y0 fz0
  generalize W3.drewN nq=W4 at *
  go_wp2_with (first | refine Zd rfl 88 _ rfl (w.heap.size+1) rfl pS4 _ Tryz.underlying88 rfl (by kernel_rfl) ?_ | refine Ze rfl 88 _ _ rfl (w.heap.size+1+1) [.slice (some ⟨g0,0,none⟩) 3 k0,.slice (some ⟨g1,0,none⟩) 4 k1,.slice (some ⟨g2,0,none⟩) 2 k2,.slice (some ⟨g3,0,none⟩) 6 k3] rfl rfl pR4 (by kernel_rfl) rfl rfl ?_)
  intro w9 pR9 gr9
  replace b4:=b4.grown gr9 b4.size (fun x hx=>by cases hx;omega)
  replace hO4:=hO4.kept9 gr9 pR4 (by decide)
  clear gr9 pR4 pS4
  go_wp2_with fail
  refine bodyPost_ret (ZF Tryz.results120 _ _ _ _ _ _ rfl pR9.out Tryz.underlying88 rfl (by kernel_rfl)) rfl ?_
  exact ⟨Xy.mk9 ((some ⟨g0,0,none⟩,3,k0),(some ⟨g1,0,none⟩,4,k1),(some ⟨g2,0,none⟩,2,k2),(some ⟨g3,0,none⟩,6,k3)) rfl hO4,b4⟩
 
end Go.Proofs.YtgmhhegckcionaaGreatDoor
