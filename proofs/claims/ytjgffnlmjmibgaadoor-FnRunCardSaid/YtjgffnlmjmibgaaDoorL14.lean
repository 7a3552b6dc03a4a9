/-
  Joined: MachE, SpecC.
-/
import Derived.Test.YtjgffnlmjmibgaaDoorL13

namespace Go.Proofs.YtjgffnlmjmibgaaDoor
set_option maxRecDepth 100000
set_option maxHeartbeats 16000000
open Go.RowKit

theorem enabM_yes {rows:List (List I3)} {m:V4} {k:Nat} (h:canM rows m k=true):enabM rows m (k+1)=enabM rows m k++[(k:Int)]:=by simp [enabM,h]
theorem enabM_no {rows:List (List I3)} {m:V4} {k:Nat} (h:canM rows m k=false):enabM rows m (k+1)=enabM rows m k:=by simp [enabM,h]
theorem enabM_len (rows:List (List I3)) (m:V4):∀ k,(enabM rows m k).length≤k
 | 0=>by simp [enabM]
 | k+1=>by
  have:=enabM_len rows m k
  unfold enabM
  split
  ·simp;omega
  ·omega


theorem l03Done_raw (b off len cap b0 o0 c0:Nat) (a1:Option Addr) (n1 c1:Nat) (a2:Option Addr) (n2 c2:Nat) (a3:Option Addr) (n3 c3 k:Nat) (ca:Option Addr) (cn cc:Nat) (pc:Int) (w:World) (hk:k<3) (hlen:len=3)
  (r0:w.cell? ⟨b,off+k,none⟩=some (.slice ca cn cc)) (r1:w.cell? ⟨b0,o0+k,none⟩=some (.int .i64 pc)) :
  Calls Tryd.prog 69 #[.agg #[.slice (some ⟨b,off,none⟩) len cap],.agg #[.slice (some ⟨b0,o0,none⟩) 3 c0,.slice a1 n1 c1,.slice a2 n2 c2,.slice a3 n3 c3],.int .i64 k] w fun e w'=>e=.returned (.bool (decide ((cn:Int)≤pc)))∧Below w.heap.size w w':=by
 obtain ⟨x,hx⟩:∃ x,x=decide ((cn:Int)≤pc):=⟨_,rfl⟩
 have hd:decide ((cn:Int)≤pc)=x:=hx.symm
 rw [← hx]
 clear hx
 have hk3:(k:Int)<3:=by omega
 have hkl:(k:Int)<(len:Int):=by omega
 clear hlen
 have bw:Below w.heap.size w ((w.alloc (.cells #[.slice (some ⟨b,off,none⟩) len cap] 25)).alloc (.cells #[.slice (some ⟨b0,o0,none⟩) 3 c0,.slice a1 n1 c1,.slice a2 n2 c2,.slice a3 n3 c3] 30)):=by go_grown
 have g0:((w.alloc (.cells #[.slice (some ⟨b,off,none⟩) len cap] 25)).alloc (.cells #[.slice (some ⟨b0,o0,none⟩) 3 c0,.slice a1 n1 c1,.slice a2 n2 c2,.slice a3 n3 c3] 30)).cell? ⟨w.heap.size,0,none⟩=some (.slice (some ⟨b,off,none⟩) len cap):=by simp [go_sem]
 have g1:((w.alloc (.cells #[.slice (some ⟨b,off,none⟩) len cap] 25)).alloc (.cells #[.slice (some ⟨b0,o0,none⟩) 3 c0,.slice a1 n1 c1,.slice a2 n2 c2,.slice a3 n3 c3] 30)).cell? ⟨w.heap.size+1,0,none⟩=some (.slice (some ⟨b0,o0,none⟩) 3 c0):=by simp [go_sem]
 replace r0:=cells_kept bw _ _ r0
 replace r1:=cells_kept bw _ _ r1
 go_enter Tryd.func69,Tryd.ntmps69
 go_wp2_with fail
 generalize ((w.alloc (.cells #[.slice (some ⟨b,off,none⟩) len cap] 25)).alloc (.cells #[.slice (some ⟨b0,o0,none⟩) 3 c0,.slice a1 n1 c1,.slice a2 n2 c2,.slice a3 n3 c3] 30))=W at *
 go_quiet (fail)
 have bz:Below w.heap.size w (W.drewN nq):=bel_trans bw (below_dN _)
 go_wp2
 go_ret
 exact ⟨rfl,bz⟩

theorem l03Done_is {w:World} {a:Option Addr} {len cap:Nat} {cs:Sl × Sl × Sl} {rows:List (List I3)} {s:S4} {m:V4} (hl:len=3) (hR:RowsAt w a cs rows) (h:Vmem w s m) (hs:shapeOk m=true) {k:Nat} (hk:k<3) :
  Calls Tryd.prog 69 #[.agg #[.slice a len cap],s.val,.int .i64 k] w fun e w'=>e=.returned (.bool (doneM rows m k))∧Below w.heap.size w w':=by
 obtain ⟨b,off,rfl,_,hrow⟩:=hR
 obtain ⟨r0,hI⟩:=hrow k hk
 obtain ⟨⟨j0,_⟩,_⟩:=h
 obtain ⟨l0,_⟩:=shape_parts hs
 obtain ⟨⟨a0,n0,c0⟩,⟨a1,n1,c1⟩,⟨a2,n2,c2⟩,⟨a3,n3,c3⟩⟩:=s
 simp only at j0
 obtain ⟨rfl,b0,o0,rfl⟩:=some_of_ints j0 l0 (by decide)
 have r1:=ints_at9 j0 (t:=k) hk
 unfold doneM
 rw [hI.1]
 exact l03Done_raw b off len cap b0 o0 c0 a1 n1 c1 a2 n2 c2 a3 n3 c3 k _ _ _ _ w hk hl r0 r1

theorem l03Can_free (b off len cap b0 o0 c0:Nat) (a1:Option Addr) (n1 c1:Nat) (a2:Option Addr) (n2 c2:Nat) (a3:Option Addr) (n3 c3 k:Nat) (cb co cn cc p:Nat) (x0 x1 x2:Int) (w:World) (hk:k<3) (hlen:len=3) (hp:p<cn)
  (e0:w.cell? ⟨b,off+k,none⟩=some (.slice (some ⟨cb,co,none⟩) cn cc)) (e1:w.cell? ⟨b0,o0+k,none⟩=some (.int .i64 p)) (q0:w.cell? ⟨cb,co+p*3,none⟩=some (.int .i64 x0)) (q1:w.cell? ⟨cb,co+p*3+1,none⟩=some (.int .i64 x1)) (q2:w.cell? ⟨cb,co+p*3+2,none⟩=some (.int .i64 x2)) (hx:x0≠5) :
  Calls Tryd.prog 70 #[.agg #[.slice (some ⟨b,off,none⟩) len cap],.agg #[.slice (some ⟨b0,o0,none⟩) 3 c0,.slice a1 n1 c1,.slice a2 n2 c2,.slice a3 n3 c3],.int .i64 k] w fun e w'=>e=.returned (.bool true)∧Below w.heap.size w w':=by
 have kD:=fun w r0 r1=>l03Done_raw b off len cap b0 o0 c0 a1 n1 c1 a2 n2 c2 a3 n3 c3 k (some ⟨cb,co,none⟩) cn cc p w hk hlen r0 r1
 rw [decide_eq_false (by omega)] at kD
 have hk3:(k:Int)<3:=by omega
 have hkl:(k:Int)<(len:Int):=by omega
 have hpn:(p:Int)<(cn:Int):=by omega
 clear hlen
 have bw:Below w.heap.size w ((w.alloc (.cells #[.slice (some ⟨b,off,none⟩) len cap] 25)).alloc (.cells #[.slice (some ⟨b0,o0,none⟩) 3 c0,.slice a1 n1 c1,.slice a2 n2 c2,.slice a3 n3 c3] 30)):=by go_grown
 have g0:((w.alloc (.cells #[.slice (some ⟨b,off,none⟩) len cap] 25)).alloc (.cells #[.slice (some ⟨b0,o0,none⟩) 3 c0,.slice a1 n1 c1,.slice a2 n2 c2,.slice a3 n3 c3] 30)).cell? ⟨w.heap.size,0,none⟩=some (.slice (some ⟨b,off,none⟩) len cap):=by simp [go_sem]
 have g1:((w.alloc (.cells #[.slice (some ⟨b,off,none⟩) len cap] 25)).alloc (.cells #[.slice (some ⟨b0,o0,none⟩) 3 c0,.slice a1 n1 c1,.slice a2 n2 c2,.slice a3 n3 c3] 30)).cell? ⟨w.heap.size+1,0,none⟩=some (.slice (some ⟨b0,o0,none⟩) 3 c0):=by simp [go_sem]
 have g2:((w.alloc (.cells #[.slice (some ⟨b,off,none⟩) len cap] 25)).alloc (.cells #[.slice (some ⟨b0,o0,none⟩) 3 c0,.slice a1 n1 c1,.slice a2 n2 c2,.slice a3 n3 c3] 30)).cell? ⟨w.heap.size+1,2,none⟩=some (.slice a2 n2 c2):=by simp [go_sem]
 replace e0:=cells_kept bw _ _ e0
 replace e1:=cells_kept bw _ _ e1
 replace q0:=cells_kept bw _ _ q0
 replace q1:=cells_kept bw _ _ q1
 replace q2:=cells_kept bw _ _ q2
 go_enter Tryd.func70,Tryd.ntmps70
 go_wp2_with fail
 refine (kD _ e0 e1).mono ?_
 rintro e w1 ⟨rfl,hb⟩
 replace bw:=bel_trans bw hb
 replace g0:=cells_kept hb _ _ g0
 replace g1:=cells_kept hb _ _ g1
 replace g2:=cells_kept hb _ _ g2
 replace e0:=cells_kept hb _ _ e0
 replace e1:=cells_kept hb _ _ e1
 replace q0:=cells_kept hb _ _ q0
 replace q1:=cells_kept hb _ _ q1
 replace q2:=cells_kept hb _ _ q2
 clear hb kD
 go_wp2_with fail
 refine wp_region_held_drew (S:=(fun w'=>w'.cell? ⟨w.heap.size,0,none⟩=some (.slice (some ⟨b,off,none⟩) len cap)∧w'.cell? ⟨w.heap.size+1,0,none⟩=some (.slice (some ⟨b0,o0,none⟩) 3 c0)∧w'.cell? ⟨b,off+k,none⟩=some (.slice (some ⟨cb,co,none⟩) cn cc)∧w'.cell? ⟨b0,o0+k,none⟩=some (.int .i64 p)∧w'.cell? ⟨cb,co+p*3,none⟩=some (.int .i64 x0)∧w'.cell? ⟨cb,co+p*3+1,none⟩=some (.int .i64 x1)∧w'.cell? ⟨cb,co+p*3+2,none⟩=some (.int .i64 x2))) (by kernel_rfl) ⟨g0,g1,e0,e1,q0,q1,q2⟩ (fun hS0=>?_)
 refine tkm 0 12 (.pointer (some ⟨w.heap.size,0,none⟩)) ?_
 refine tkm 1 13 (.slice (some ⟨b,off,none⟩) len cap) ?_
 refine tkm 2 14 (.int .i64 k) ?_
 refine tkm 3 15 (.pointer (some ⟨b,off+k,none⟩)) ?_
 refine tkm 4 16 (.slice (some ⟨cb,co,none⟩) cn cc) ?_
 refine tkm 5 17 (.pointer (some ⟨w.heap.size+1,0,none⟩)) ?_
 refine tkm 6 18 (.slice (some ⟨b0,o0,none⟩) 3 c0) ?_
 refine tkm 7 19 (.int .i64 k) ?_
 refine tkm 8 20 (.pointer (some ⟨b0,o0+k,none⟩)) ?_
 refine tkm 9 21 (.int .i64 p) ?_
 refine tkm 10 22 (.pointer (some ⟨cb,co+p*3,none⟩)) ?_
 refine tkm 11 23 (.agg #[.int .i64 x0,.int .i64 x1,.int .i64 x2]) ?_
 refine tkr 12 7 (fun K hK=>?_)
 have hal:Below w1.drew.heap.size w1.drew (w1.drew.alloc (.cells #[.int .i64 0,.int .i64 0,.int .i64 0] 103)):=by go_grown
 go_simp
 refine hK.out _ _ ?_ (fun hS1=>?_)
 ·exact ⟨cells_kept hal _ _ hS0.1,cells_kept hal _ _ hS0.2.1,cells_kept hal _ _ hS0.2.2.1,cells_kept hal _ _ hS0.2.2.2.1,cells_kept hal _ _ hS0.2.2.2.2.1,cells_kept hal _ _ hS0.2.2.2.2.2.1,cells_kept hal _ _ hS0.2.2.2.2.2.2⟩
 clear hK
 try simp only [Act.put,tka,tkb,tkc]
 refine tkz 13 (fun K hK=>?_)
 have hal2:Below w1.drew.heap.size w1.drew (w1.drew.alloc (.cells #[.int .i64 x0,.int .i64 x1,.int .i64 x2] 103)):=by go_grown
 go_simp
 refine hK.out _ _ ?_ (fun hS2=>?_)
 ·exact ⟨cells_kept hal2 _ _ hS0.1,cells_kept hal2 _ _ hS0.2.1,cells_kept hal2 _ _ hS0.2.2.1,cells_kept hal2 _ _ hS0.2.2.2.1,cells_kept hal2 _ _ hS0.2.2.2.2.1,cells_kept hal2 _ _ hS0.2.2.2.2.2.1,cells_kept hal2 _ _ hS0.2.2.2.2.2.2⟩
 clear hK
 try simp only [Act.put,tka,tkb,tkc]
 refine wpAnyH_done (by kernel_rfl) ?_ _
 have bx:Below w1.heap.size w1 (w1.alloc (.cells #[.int .i64 x0,.int .i64 x1,.int .i64 x2] 103)).drew:=by go_grown
 have pX:Blk (w1.alloc (.cells #[.int .i64 x0,.int .i64 x1,.int .i64 x2] 103)).drew w1.heap.size 103 [.int .i64 x0,.int .i64 x1,.int .i64 x2]:=Blk.new w1 103 [.int .i64 x0,.int .i64 x1,.int .i64 x2]
 replace bw:=bel_trans bw bx
 replace g2:=cells_kept bx _ _ g2
 have u0:=pX.cell 0
 have u1:=pX.cell 1
 simp only [List.getElem?_cons_zero,List.getElem?_cons_succ] at u0 u1
 clear bx hal hal2 hS0 hS1 hS2 e0 e1 q0 q1 q2 g0 g1 pX
 have hx5:(x0 != 5)=true:=by simp [hx]
 go_wp2_with fail
 generalize (w1.alloc (.cells #[.int .i64 x0,.int .i64 x1,.int .i64 x2] 103)).drew=W3 at *
 go_wp2
 go_ret
 exact ⟨rfl,bw⟩

theorem l03Can_lock (b off len cap b0 o0 c0:Nat) (a1:Option Addr) (n1 c1:Nat) (c2:Nat) (a3:Option Addr) (n3 c3 k:Nat) (cb co cn cc p:Nat) (x2:Int) (b2 o2 q:Nat) (hv:Int) (w:World) (hk:k<3) (hlen:len=3) (hp:p<cn)
  (e0:w.cell? ⟨b,off+k,none⟩=some (.slice (some ⟨cb,co,none⟩) cn cc)) (e1:w.cell? ⟨b0,o0+k,none⟩=some (.int .i64 p)) (q0:w.cell? ⟨cb,co+p*3,none⟩=some (.int .i64 5)) (q1:w.cell? ⟨cb,co+p*3+1,none⟩=some (.int .i64 q)) (q2:w.cell? ⟨cb,co+p*3+2,none⟩=some (.int .i64 x2)) (hq:q<2) (h6:w.cell? ⟨b2,o2+q,none⟩=some (.int .i64 hv)) (z:Bool) (hz:z=decide (hv=0)) :
  Calls Tryd.prog 70 #[.agg #[.slice (some ⟨b,off,none⟩) len cap],.agg #[.slice (some ⟨b0,o0,none⟩) 3 c0,.slice a1 n1 c1,.slice (some ⟨b2,o2,none⟩) 2 c2,.slice a3 n3 c3],.int .i64 k] w fun e w'=>e=.returned (.bool z)∧Below w.heap.size w w':=by
 have kD:=fun w r0 r1=>l03Done_raw b off len cap b0 o0 c0 a1 n1 c1 (some ⟨b2,o2,none⟩) 2 c2 a3 n3 c3 k (some ⟨cb,co,none⟩) cn cc p w hk hlen r0 r1
 rw [decide_eq_false (by omega)] at kD
 have hk3:(k:Int)<3:=by omega
 have hkl:(k:Int)<(len:Int):=by omega
 have hpn:(p:Int)<(cn:Int):=by omega
 clear hlen
 have bw:Below w.heap.size w ((w.alloc (.cells #[.slice (some ⟨b,off,none⟩) len cap] 25)).alloc (.cells #[.slice (some ⟨b0,o0,none⟩) 3 c0,.slice a1 n1 c1,.slice (some ⟨b2,o2,none⟩) 2 c2,.slice a3 n3 c3] 30)):=by go_grown
 have g0:((w.alloc (.cells #[.slice (some ⟨b,off,none⟩) len cap] 25)).alloc (.cells #[.slice (some ⟨b0,o0,none⟩) 3 c0,.slice a1 n1 c1,.slice (some ⟨b2,o2,none⟩) 2 c2,.slice a3 n3 c3] 30)).cell? ⟨w.heap.size,0,none⟩=some (.slice (some ⟨b,off,none⟩) len cap):=by simp [go_sem]
 have g1:((w.alloc (.cells #[.slice (some ⟨b,off,none⟩) len cap] 25)).alloc (.cells #[.slice (some ⟨b0,o0,none⟩) 3 c0,.slice a1 n1 c1,.slice (some ⟨b2,o2,none⟩) 2 c2,.slice a3 n3 c3] 30)).cell? ⟨w.heap.size+1,0,none⟩=some (.slice (some ⟨b0,o0,none⟩) 3 c0):=by simp [go_sem]
 have g2:((w.alloc (.cells #[.slice (some ⟨b,off,none⟩) len cap] 25)).alloc (.cells #[.slice (some ⟨b0,o0,none⟩) 3 c0,.slice a1 n1 c1,.slice (some ⟨b2,o2,none⟩) 2 c2,.slice a3 n3 c3] 30)).cell? ⟨w.heap.size+1,2,none⟩=some (.slice (some ⟨b2,o2,none⟩) 2 c2):=by simp [go_sem]
 replace e0:=cells_kept bw _ _ e0
 replace e1:=cells_kept bw _ _ e1
 replace q0:=cells_kept bw _ _ q0
 replace q1:=cells_kept bw _ _ q1
 replace q2:=cells_kept bw _ _ q2
 replace h6:=cells_kept bw _ _ h6
 go_enter Tryd.func70,Tryd.ntmps70
 go_wp2_with fail
 refine (kD _ e0 e1).mono ?_
 rintro e w1 ⟨rfl,hb⟩
 replace bw:=bel_trans bw hb
 replace g0:=cells_kept hb _ _ g0
 replace g1:=cells_kept hb _ _ g1
 replace g2:=cells_kept hb _ _ g2
 replace e0:=cells_kept hb _ _ e0
 replace e1:=cells_kept hb _ _ e1
 replace q0:=cells_kept hb _ _ q0
 replace q1:=cells_kept hb _ _ q1
 replace q2:=cells_kept hb _ _ q2
 replace h6:=cells_kept hb _ _ h6
 clear hb kD
 go_wp2_with fail
 refine wp_region_held_drew (S:=(fun w'=>w'.cell? ⟨w.heap.size,0,none⟩=some (.slice (some ⟨b,off,none⟩) len cap)∧w'.cell? ⟨w.heap.size+1,0,none⟩=some (.slice (some ⟨b0,o0,none⟩) 3 c0)∧w'.cell? ⟨b,off+k,none⟩=some (.slice (some ⟨cb,co,none⟩) cn cc)∧w'.cell? ⟨b0,o0+k,none⟩=some (.int .i64 p)∧w'.cell? ⟨cb,co+p*3,none⟩=some (.int .i64 5)∧w'.cell? ⟨cb,co+p*3+1,none⟩=some (.int .i64 q)∧w'.cell? ⟨cb,co+p*3+2,none⟩=some (.int .i64 x2))) (by kernel_rfl) ⟨g0,g1,e0,e1,q0,q1,q2⟩ (fun hS0=>?_)
 refine tkm 0 12 (.pointer (some ⟨w.heap.size,0,none⟩)) ?_
 refine tkm 1 13 (.slice (some ⟨b,off,none⟩) len cap) ?_
 refine tkm 2 14 (.int .i64 k) ?_
 refine tkm 3 15 (.pointer (some ⟨b,off+k,none⟩)) ?_
 refine tkm 4 16 (.slice (some ⟨cb,co,none⟩) cn cc) ?_
 refine tkm 5 17 (.pointer (some ⟨w.heap.size+1,0,none⟩)) ?_
 refine tkm 6 18 (.slice (some ⟨b0,o0,none⟩) 3 c0) ?_
 refine tkm 7 19 (.int .i64 k) ?_
 refine tkm 8 20 (.pointer (some ⟨b0,o0+k,none⟩)) ?_
 refine tkm 9 21 (.int .i64 p) ?_
 refine tkm 10 22 (.pointer (some ⟨cb,co+p*3,none⟩)) ?_
 refine tkm 11 23 (.agg #[.int .i64 5,.int .i64 q,.int .i64 x2]) ?_
 refine tkr 12 7 (fun K hK=>?_)
 have hal:Below w1.drew.heap.size w1.drew (w1.drew.alloc (.cells #[.int .i64 0,.int .i64 0,.int .i64 0] 103)):=by go_grown
 go_simp
 refine hK.out _ _ ?_ (fun hS1=>?_)
 ·exact ⟨cells_kept hal _ _ hS0.1,cells_kept hal _ _ hS0.2.1,cells_kept hal _ _ hS0.2.2.1,cells_kept hal _ _ hS0.2.2.2.1,cells_kept hal _ _ hS0.2.2.2.2.1,cells_kept hal _ _ hS0.2.2.2.2.2.1,cells_kept hal _ _ hS0.2.2.2.2.2.2⟩
 clear hK
 try simp only [Act.put,tka,tkb,tkc]
 refine tkz 13 (fun K hK=>?_)
 have hal2:Below w1.drew.heap.size w1.drew (w1.drew.alloc (.cells #[.int .i64 5,.int .i64 q,.int .i64 x2] 103)):=by go_grown
 go_simp
 refine hK.out _ _ ?_ (fun hS2=>?_)
 ·exact ⟨cells_kept hal2 _ _ hS0.1,cells_kept hal2 _ _ hS0.2.1,cells_kept hal2 _ _ hS0.2.2.1,cells_kept hal2 _ _ hS0.2.2.2.1,cells_kept hal2 _ _ hS0.2.2.2.2.1,cells_kept hal2 _ _ hS0.2.2.2.2.2.1,cells_kept hal2 _ _ hS0.2.2.2.2.2.2⟩
 clear hK
 try simp only [Act.put,tka,tkb,tkc]
 refine wpAnyH_done (by kernel_rfl) ?_ _
 have bx:Below w1.heap.size w1 (w1.alloc (.cells #[.int .i64 5,.int .i64 q,.int .i64 x2] 103)).drew:=by go_grown
 have pX:Blk (w1.alloc (.cells #[.int .i64 5,.int .i64 q,.int .i64 x2] 103)).drew w1.heap.size 103 [.int .i64 5,.int .i64 q,.int .i64 x2]:=Blk.new w1 103 [.int .i64 5,.int .i64 q,.int .i64 x2]
 replace bw:=bel_trans bw bx
 replace g2:=cells_kept bx _ _ g2
 replace h6:=cells_kept bx _ _ h6
 have u0:=pX.cell 0
 have u1:=pX.cell 1
 simp only [List.getElem?_cons_zero,List.getElem?_cons_succ] at u0 u1
 clear bx hal hal2 hS0 hS1 hS2 e0 e1 q0 q1 q2 g0 g1 pX
 have hq2:(q:Int)<2:=by omega
 have hv0:(hv == 0)=z:=by rw [hz];by_cases h:hv=0<;>simp [h]
 clear hz
 go_wp2_with fail
 generalize (w1.alloc (.cells #[.int .i64 5,.int .i64 q,.int .i64 x2] 103)).drew=W3 at *
 go_wp2
 go_ret
 exact ⟨rfl,bw⟩

theorem l03Can_done {w:World} {a:Option Addr} {len cap:Nat} {cs:Sl × Sl × Sl} {rows:List (List I3)} {s:S4} {m:V4} (hl:len=3) (hR:RowsAt w a cs rows) (h:Vmem w s m) (hs:shapeOk m=true) {k:Nat} (hk:k<3) (hd:doneM rows m k=true) :
  Calls Tryd.prog 70 #[.agg #[.slice a len cap],s.val,.int .i64 k] w fun e w'=>e=.returned (.bool false)∧Below w.heap.size w w':=by
 have kD:=fun (W:World) (hR:RowsAt W a cs rows) (h:Vmem W s m)=>l03Done_is (cap:=cap) hl hR h hs hk
 rw [hd] at kD
 have hM:=fun (W:World) (hb:Below w.heap.size w W)=>h.below hb
 obtain ⟨⟨a0,n0,c0⟩,⟨a1,n1,c1⟩,⟨a2,n2,c2⟩,⟨a3,n3,c3⟩⟩:=s
 have uA:S4.val ((a0,n0,c0),(a1,n1,c1),(a2,n2,c2),(a3,n3,c3))=.agg #[.slice a0 n0 c0,.slice a1 n1 c1,.slice a2 n2 c2,.slice a3 n3 c3]:=rfl
 rw [uA] at kD ⊢
 clear uA h hl
 have bw:Below w.heap.size w ((w.alloc (.cells #[.slice a len cap] 25)).alloc (.cells #[.slice a0 n0 c0,.slice a1 n1 c1,.slice a2 n2 c2,.slice a3 n3 c3] 30)):=by go_grown
 go_enter Tryd.func70,Tryd.ntmps70
 go_wp2_with fail
 refine (kD _ (hR.below bw) (hM _ bw)).mono ?_
 rintro e w1 ⟨rfl,hb⟩
 replace bw:=bel_trans bw hb
 go_wp2
 go_ret
 exact ⟨rfl,bw⟩

theorem l03Can_is {w:World} {a:Option Addr} {len cap:Nat} {cs:Sl × Sl × Sl} {rows:List (List I3)} {s:S4} {m:V4} (hl:len=3) (hR:RowsAt w a cs rows) (h:Vmem w s m) (hp:progOk rows=true) (hs:shapeOk m=true) {k:Nat} (hk:k<3) :
  Calls Tryd.prog 70 #[.agg #[.slice a len cap],s.val,.int .i64 k] w fun e w'=>e=.returned (.bool (canM rows m k))∧Below w.heap.size w w':=by
 unfold canM
 cases hd:doneM rows m k
 ·obtain ⟨p,ep,hlt,hi,hok⟩:=at_ins hp hs hk hd
  obtain ⟨b,off,rfl,_,hrow⟩:=hR
  obtain ⟨r0,hI⟩:=hrow k hk
  obtain ⟨⟨j0,_⟩,⟨j1,_⟩,⟨j2,_⟩,⟨j3,_⟩⟩:=h
  obtain ⟨l0,l1,l2,l3,_⟩:=shape_parts hs
  obtain ⟨⟨a0,n0,c0⟩,⟨a1,n1,c1⟩,⟨a2,n2,c2⟩,⟨a3,n3,c3⟩⟩:=s
  simp only at j0 j1 j2 j3
  obtain ⟨rfl,b0,o0,rfl⟩:=some_of_ints j0 l0 (by decide)
  have r1:=ints_at9 j0 (t:=k) hk
  rw [ep] at r1
  obtain ⟨cb,co,ea,hpn,q0,q1,q2⟩:=ins_at hI hlt
  rw [← hi] at q0 q1 q2
  rw [ea] at r0
  by_cases h5:(insM rows m k).1=5
  ·obtain ⟨q,hq,hq2⟩:=okI_lock hok h5
   rw [h5] at q0
   rw [hq] at q1
   obtain ⟨rfl,b2,o2,rfl⟩:=some_of_ints j2 l2 (by decide)
   have hh:=ints_at9 j2 (t:=q) hq2
   have e:(!atLock m (insM rows m k))=decide (m.2.2.1.getD q 0=0):=by
    unfold atLock
    rw [h5,hq]
    simp
   rw [e]
   exact l03Can_lock b off len cap b0 o0 c0 a1 n1 c1 c2 a3 n3 c3 k cb co _ _ p _ b2 o2 q _ w hk hl hpn r0 r1 q0 q1 q2 hq2 hh _ rfl
  ·have e:atLock m (insM rows m k)=false:=by unfold atLock;simp [h5]
   rw [e]
   exact l03Can_free b off len cap b0 o0 c0 a1 n1 c1 a2 n2 c2 a3 n3 c3 k cb co _ _ p _ _ _ w hk hl hpn r0 r1 q0 q1 q2 h5
 ·exact l03Can_done hl hR h hs hk hd
end Go.Proofs.YtjgffnlmjmibgaaDoor
