/-
  Joined: CkfS, TruS, EtrS, SameVmI, EqlB.
-/
import Derived.Laws.StructEq
import Derived.Test.YtgmhhegckcionaaGreatDoorF04
import Derived.Test.YtgmhhegckcionaaGreatDoorF41

namespace Go.Proofs.YtgmhhegckcionaaGreatDoor
set_option maxRecDepth 100000
set_option maxHeartbeats 16000000
open Go.RowKit
set_option linter.unusedVariables false
set_option linter.unusedSimpArgs false

theorem Wm.keptV {w w':World} {B X t:Nat} {vb vf:Value} {e:E3} {cs:List Value} (h:Wm w B vb vf e) (hg:w.grownBy w' (some X)) (hX:Blk w X t cs) (h1:103≠t) (h2:3≠t):Wm w' B vb vf e:=⟨h.1.kept hg (.inr (UF h.1 hX h1)),h.2.kept hg (.inr (UF h.2 hX h2))⟩
theorem Wi.keptV {w w':World} {B X t:Nat} {v:Value} {es:List E3} {cs:List Value} (h:Wi w B v es) (hg:w.grownBy w' (some X)) (hX:Blk w X t cs) (h0:45≠t) (h1:103≠t) (h2:3≠t):Wi w' B v es:=by
 obtain ⟨cs',r,q,h3⟩:=h
 exact ⟨cs',r.kept hg (.inr (UF r hX h0)),fun t ht=>⟨(q t ht).1,(q t ht).2.keptV hg hX h1 h2⟩,h3⟩
def St (rows:List (List I3)):E3 × Zy × Bool:=ZG rows 19 Zu ([],0)
def Vc (rows:List (List I3)):Int:=if Zf rows=true then (if (St rows).2.2=true then 0 else 15) else 1
def TP (rows:List (List I3)):List I3:=if Vc rows=0 then (St rows).1.2.1 else []
def TQ (rows:List (List I3)):Nat:=if Vc rows=0 then (St rows).2.1.2 else 0
def Vd (rows:List (List I3)):List E3:=if Vc rows=0 then (St rows).2.1.1 else []
theorem K6 {rows:List (List I3)} (h:Zf rows=false):Vc rows=1∧TP rows=[]∧TQ rows=0∧Vd rows=[]:=by
 have e:Vc rows=1:=by unfold Vc;rw [h];rfl
 refine ⟨e,?_,?_,?_⟩<;>simp [TP,TQ,Vd,e]
theorem Fu {rows:List (List I3)} (h:Zf rows=true) (hk:(St rows).2.2=false):Vc rows=15∧TP rows=[]∧TQ rows=0∧Vd rows=[]:=by
 have e:Vc rows=15:=by unfold Vc;rw [if_pos h,hk];rfl
 refine ⟨e,?_,?_,?_⟩<;>simp [TP,TQ,Vd,e]
theorem CV {rows:List (List I3)} (h:Zf rows=true) (hk:(St rows).2.2=true):Vc rows=0∧TP rows=(St rows).1.2.1∧TQ rows=(St rows).2.1.2∧Vd rows=(St rows).2.1.1:=by
 have e:Vc rows=0:=by unfold Vc;rw [if_pos h,if_pos hk]
 refine ⟨e,?_,?_,?_⟩<;>simp [TP,TQ,Vd,e]
def UQ (x:Ending) (w':World) (B:Nat) (bz:List I3) (nz:Nat) (es:List E3) (c:Int):Prop:=∃ vb vm:Value,x=.returned (.tuple #[.agg #[vb,.int .i64 (nz:Int)],.agg #[vm],.int .i64 c])∧w'.ownsRow B 103 3 vb bz.length (Zn bz)∧Wi w' B vm es
theorem UQ.mk9 {w':World} {B nz:Nat} {vb vm:Value} {bz:List I3} {es:List E3} {c:Int} (h:w'.ownsRow B 103 3 vb bz.length (Zn bz)) (hM:Wi w' B vm es):UQ (.returned (.tuple #[.agg #[vb,.int .i64 (nz:Int)],.agg #[vm],.int .i64 c])) w' B bz nz es c:=⟨vb,vm,rfl,h,hM⟩
theorem UQ.nil9 {w':World} {B:Nat} {c:Int}:UQ (.returned (.tuple #[.agg #[.slice none 0 0,.int .i64 0],.agg #[.slice none 0 0],.int .i64 c])) w' B [] 0 [] c:=⟨_,_,rfl,World.ownsRow_nil _ _ _ _,Wi.nil9 _ _⟩
theorem SX (a:Option Addr) (len cap:Nat) (rows:List (List I3)) (w:World) (hC:YT w a len cap rows) :
  Calls Tryz.prog 14 #[.agg #[.slice a len cap]] w fun x w'=>UQ x w' w.heap.size (TP rows) (TQ rows) (Vd rows) (Vc rows)∧Below w.heap.size w w':=by
 have kO:=fun (W:World) (b:Below w.heap.size w W)=>Rt a len cap rows W (hC.below b)
 have bw:Below w.heap.size w (((w.alloc (.cells #[.slice a len cap] 25)).alloc (.cells #[.slice none 0 0,.int .i64 0] 30)).alloc (.cells #[.slice none 0 0] 33)):=by go_grown
 have pP:Blk (((w.alloc (.cells #[.slice a len cap] 25)).alloc (.cells #[.slice none 0 0,.int .i64 0] 30)).alloc (.cells #[.slice none 0 0] 33)) w.heap.size 25 [.slice a len cap]:=Zl _ (Zl _ (Zj _ _ _ rfl))
 have pR:Blk (((w.alloc (.cells #[.slice a len cap] 25)).alloc (.cells #[.slice none 0 0,.int .i64 0] 30)).alloc (.cells #[.slice none 0 0] 33)) (w.heap.size+1) 30 [.slice none 0 0,.int .i64 0]:=Zl _ (Zj _ _ _ (by simp))
 have pT:Blk (((w.alloc (.cells #[.slice a len cap] 25)).alloc (.cells #[.slice none 0 0,.int .i64 0] 30)).alloc (.cells #[.slice none 0 0] 33)) (w.heap.size+1+1) 33 [.slice none 0 0]:=Zj _ _ _ (by simp)
 have hszU:w.heap.size+3≤(((w.alloc (.cells #[.slice a len cap] 25)).alloc (.cells #[.slice none 0 0,.int .i64 0] 30)).alloc (.cells #[.slice none 0 0] 33)).heap.size:=by simp
 go_enter Tryz.func14,Tryz.ntmps14
 go_wp2_with fail
 generalize (((w.alloc (.cells #[.slice a len cap] 25)).alloc (.cells #[.slice none 0 0,.int .i64 0] 30)).alloc (.cells #[.slice none 0 0] 33))=U at *
 go_wp2_with (refine Zd rfl 25 _ rfl w.heap.size rfl pP _ Tryz.underlying25 rfl (by kernel_rfl) ?_)
 refine (kO U bw).mono ?_
 rintro e w1 ⟨rfl,hb⟩
 replace bw:=Zo bw hb
 replace pP:=pP.below hb
 replace pR:=pR.below hb
 replace pT:=pT.below hb
 replace hszU:=Nat.le_trans hszU hb.size
 clear hb kO
 cases hp:Zf rows
 ·have HE:Hid (Vc rows=1∧TP rows=[]∧TQ rows=0∧Vd rows=[]):=K6 hp
  have r0:=pR.cell 0
  have r1:=pR.cell 1
  have t0:=pT.cell 0
  have fr0:=pR.frozen 0
  have fr1:=pR.frozen 1
  have ft0:=pT.frozen 0
  have pZ:=((pR.set 0 (.slice none 0 0)).set 1 (.int .i64 0)).off ⟨w.heap.size+1+1,0,none⟩ (.slice none 0 0) (by simp)
  have pY:=(((pT.off ⟨w.heap.size+1,0,none⟩ (.slice none 0 0) (by simp)).off ⟨w.heap.size+1,1,none⟩ (.int .i64 0) (by simp)).set 0 (.slice none 0 0))
  simp only [List.set_cons_zero,List.set_cons_succ] at pZ pY
  have z0:=pZ.cell 0
  have z1:=pZ.cell 1
  have y0:=pY.cell 0
  simp only [List.getElem?_cons_zero,List.getElem?_cons_succ] at z0 z1 y0 r0 r1 t0
  have h1:w.heap.size≤w.heap.size+1:=by omega
  have h2:w.heap.size≤w.heap.size+1+1:=by omega
  have bz:=((bw.setCell (p:=⟨w.heap.size+1,0,none⟩) h1 (.slice none 0 0)).setCell (p:=⟨w.heap.size+1,1,none⟩) h1 (.int .i64 0)).setCell (p:=⟨w.heap.size+1+1,0,none⟩) h2 (.slice none 0 0)
  clear pZ pY pR pT pP
  go_wp2
  refine bodyPost_ret (by simp [results,Tryz.results14,go_sem,z0,z1,y0];try rfl) rfl ?_
  obtain ⟨e1,e2,e3,e4⟩:=HE.out
  rw [e1,e2,e3,e4]
  exact ⟨UQ.nil9,bz⟩
 obtain ⟨hl3,cs,hR⟩:=hC.rowsAt hp
 subst hl3
 have hf3:=LQ hp 19 Zu ([],0) ZJ (by simp)
 have hvr:=Qe hp 19 Zu ([],0) ZJ (by simp)
 have hfew:(ZG rows 19 Zu ([],0)).2.2=true→(ZG rows 19 Zu ([],0)).2.1.1.length≤2000:=fun h9=>(WK hp 19 Zu ([],0) ZJ TM h9).1.few
 have kC:=fun (W:World) (b:Below w.heap.size w W) (a':Option Addr) (c':Nat) (hA:Y6 W a' 0 c' []) (hn:a'=none→c'=0)=>M6 (cap:=cap) hp [] TM (by simp) W a cs a' 0 c' (hR.below b) hA hn (fun e he=>Nat.le_trans (by omega) (hf3 e he).2)
 have eN:=fun h9=>K6 (rows:=rows) h9
 have eF:=Fu (rows:=rows) hp
 have eK:=CV (rows:=rows) hp
 rw [show ZG rows 19 Zu ([],0)=St rows from rfl] at hvr hfew hf3
 rw [show ZG rows 19 Zu ([],0)=St rows from rfl] at kC
 generalize St rows=r at *
 have hb:Below w1.heap.size w1 (w1.alloc (.cells #[] 45)):=by go_grown
 have hA0:Y6 (w1.alloc (.cells #[] 45)) (some ⟨w1.heap.size,0,none⟩) 0 0 []:=⟨rfl,Nat.le_refl _,Nat.zero_le _,.inl rfl⟩
 have kCx:=kC _ (Zo bw hb) _ _ hA0 (fun h9=>by cases h9)
 clear kC hA0
 go_wp2_with (refine Zd rfl 25 _ rfl w.heap.size rfl pP _ Tryz.underlying25 rfl (by kernel_rfl) ?_)
 refine kCx.mono ?_
 rintro e w2 ⟨⟨vb,a3,n3,c3,rfl,hv,hA3⟩,hb2⟩
 obtain ⟨va,vc,rfl⟩:=ZY hv
 have hbA:=Zo hb hb2
 have hw1:w.heap.size≤w1.heap.size:=by omega
 replace bw:=Zo bw hbA
 replace pR:=pR.below hbA
 replace pT:=pT.below hbA
 replace hszU:=Nat.le_trans hszU hbA.size
 replace hv:=Yz hv (show w.heap.size≤(w1.alloc (.cells #[] 45)).heap.size by simp;omega)
 clear hb hb2 hbA kCx pP
 have ut:r.2.2=r.2.2:=rfl
 have W3:=((w2.alloc (.cells #[.slice va r.1.2.1.length vc,.int .i64 (r.2.1.2:Int)] 30)).alloc (.cells #[.slice a3 n3 c3] 33))
 clear W3
 have hb3:Below w2.heap.size w2 ((w2.alloc (.cells #[.slice va r.1.2.1.length vc,.int .i64 (r.2.1.2:Int)] 30)).alloc (.cells #[.slice a3 n3 c3] 33)):=by go_grown
 have p5:Blk ((w2.alloc (.cells #[.slice va r.1.2.1.length vc,.int .i64 (r.2.1.2:Int)] 30)).alloc (.cells #[.slice a3 n3 c3] 33)) w2.heap.size 30 [.slice va r.1.2.1.length vc,.int .i64 (r.2.1.2:Int)]:=Zl _ (Zj _ _ _ rfl)
 have p6:Blk ((w2.alloc (.cells #[.slice va r.1.2.1.length vc,.int .i64 (r.2.1.2:Int)] 30)).alloc (.cells #[.slice a3 n3 c3] 33)) (w2.heap.size+1) 33 [.slice a3 n3 c3]:=Zj _ _ _ (by simp)
 replace bw:=Zo bw hb3
 replace pR:=pR.below hb3
 replace pT:=pT.below hb3
 replace hv:=Z1 hv hb3
 replace hA3:=hA3.below hb3
 have hw2:w.heap.size+3≤w2.heap.size:=hszU
 clear hb3 hszU
 cases hok:r.2.2
 ·have HE:Hid (Vc rows=15∧TP rows=[]∧TQ rows=0∧Vd rows=[]):=eF hok
  go_upto_region 4 with fail
  generalize ((w2.alloc (.cells #[.slice va r.1.2.1.length vc,.int .i64 (r.2.1.2:Int)] 30)).alloc (.cells #[.slice a3 n3 c3] 33))=U3 at *
  clear eN eF eK hv hA3 p5 p6 ut hfew hf3 hvr
  have r0:=pR.cell 0
  have r1:=pR.cell 1
  have t0:=pT.cell 0
  have fr0:=pR.frozen 0
  have fr1:=pR.frozen 1
  have ft0:=pT.frozen 0
  have pZ:=((pR.set 0 (.slice none 0 0)).set 1 (.int .i64 0)).off ⟨w.heap.size+1+1,0,none⟩ (.slice none 0 0) (by simp)
  have pY:=(((pT.off ⟨w.heap.size+1,0,none⟩ (.slice none 0 0) (by simp)).off ⟨w.heap.size+1,1,none⟩ (.int .i64 0) (by simp)).set 0 (.slice none 0 0))
  simp only [List.set_cons_zero,List.set_cons_succ] at pZ pY
  have z0:=pZ.cell 0
  have z1:=pZ.cell 1
  have y0:=pY.cell 0
  simp only [List.getElem?_cons_zero,List.getElem?_cons_succ] at z0 z1 y0 r0 r1 t0
  have h1:w.heap.size≤w.heap.size+1:=by omega
  have h2:w.heap.size≤w.heap.size+1+1:=by omega
  have bz:=((bw.setCell (p:=⟨w.heap.size+1,0,none⟩) h1 (.slice none 0 0)).setCell (p:=⟨w.heap.size+1,1,none⟩) h1 (.int .i64 0)).setCell (p:=⟨w.heap.size+1+1,0,none⟩) h2 (.slice none 0 0)
  clear pZ pY pR pT
  go_wp2
  refine bodyPost_ret (by simp [results,Tryz.results14,go_sem,z0,z1,y0];try rfl) rfl ?_
  obtain ⟨e1,e2,e3,e4⟩:=HE.out
  rw [e1,e2,e3,e4]
  exact ⟨UQ.nil9,bz⟩
 have HE:Hid (Vc rows=0∧TP rows=r.1.2.1∧TQ rows=r.2.1.2∧Vd rows=r.2.1.1):=eK hok
 go_upto_region 4 with fail
 generalize ((w2.alloc (.cells #[.slice va r.1.2.1.length vc,.int .i64 (r.2.1.2:Int)] 30)).alloc (.cells #[.slice a3 n3 c3] 33))=U3 at *
 have hl3:=hA3.1
 have hsm:SmE r.2.1.1:=⟨hfew hok,fun i hi=>by
  have h9:=hvr.2 (r.2.1.1.getD i e3d) (by rw [Y5 hi];exact List.getElem_mem _)
  have h1:=h9.bugs
  have h2:=h9.foot
  omega⟩
 have kW:=fun (W:World) (b:Below U3.heap.size U3 W)=>Kt a3 n3 c3 r.2.1.1 W (hA3.below b) hsm
 have x0:=p5.cell 0
 have x1:=p5.cell 1
 have x2:=p6.cell 0
 simp only [List.getElem?_cons_zero,List.getElem?_cons_succ] at x0 x1 x2
 clear eN eF eK hA3 ut hfew hf3 hvr hsm
 go_wp2_with fail
 refine wp_region_held_drew (S:=(fun w'=>w'.cell? ⟨w2.heap.size,0,none⟩=some (.slice va r.1.2.1.length vc)∧w'.cell? ⟨w2.heap.size,1,none⟩=some (.int .i64 (r.2.1.2:Int))∧w'.cell? ⟨w2.heap.size+1,0,none⟩=some (.slice a3 n3 c3))) (by kernel_rfl) ⟨x0,x1,x2⟩ (fun hS0=>?_)
 refine tkv 0 25 (.agg #[.slice va r.1.2.1.length vc,.int .i64 (r.2.1.2:Int)]) ?_
 refine tkv 1 26 (.agg #[.slice a3 n3 c3]) ?_
 have bd:Below U3.heap.size U3 U3.drew:=by go_grown
 have kWx:=kW _ bd
 replace bw:=Zo bw bd
 replace pR:=pR.below bd
 replace pT:=pT.below bd
 replace hv:=Z1 hv bd
 clear bd kW x0 x1 x2 p5 p6
 generalize U3.drew=V at *
 refine tkr 2 27 (fun K hK=>?_)
 go_simp
 refine kWx.mono ?_
 rintro x V2 ⟨⟨vm,rfl,hM⟩,hb⟩
 go_wp2_with fail
 refine hK.out _ _ ⟨Za hb _ _ hS0.1,Za hb _ _ hS0.2.1,Za hb _ _ hS0.2.2⟩ (fun hS0=>?_)
 clear hK kWx
 replace hM:=hM.lower bw.size
 replace bw:=Zo bw hb
 replace pR:=pR.below hb
 replace pT:=pT.below hb
 replace hv:=Z1 hv hb
 clear hb
 obtain ⟨ma,mc,rfl⟩:=hM.slice9
 try simp only [Act.put,tka,tkb,tkc]
 refine tkz 3 (fun K hK=>?_)
 refine Zq rfl 30 _ _ rfl (w.heap.size+1) [.slice va r.1.2.1.length vc,.int .i64 (r.2.1.2:Int)] rfl rfl pR (by kernel_rfl) rfl rfl ?_
 intro V3 q8 g8
 refine hK.out _ _ ⟨Zp g8 hS0.1 (fun e=>by injection e with e9;dsimp only at e9;omega),Zp g8 hS0.2.1 (fun e=>by injection e with e9;dsimp only at e9;omega),Zp g8 hS0.2.2 (fun e=>by injection e with e9;dsimp only at e9;omega)⟩ (fun hS0=>?_)
 clear hK
 try simp only [Act.put,tka,tkb,tkc]
 replace hv:=hv.kept g8 (.inr (Zk hv pR (by decide)))
 replace hM:=hM.keptV g8 pR (by decide) (by decide) (by decide)
 replace pT:=pT.kept g8 (by simp)
 replace bw:=bw.grown g8 bw.size (fun k hk=>by cases hk;omega)
 replace pR:=q8.out
 clear q8 g8
 refine tkz 4 (fun K hK=>?_)
 refine Zq rfl 33 _ _ rfl (w.heap.size+1+1) [.slice ma r.2.1.1.length mc] rfl rfl pT (by kernel_rfl) rfl rfl ?_
 intro V4 q9 g9
 refine hK.out _ _ ⟨Zp g9 hS0.1 (fun e=>by injection e with e9;dsimp only at e9;omega),Zp g9 hS0.2.1 (fun e=>by injection e with e9;dsimp only at e9;omega),Zp g9 hS0.2.2 (fun e=>by injection e with e9;dsimp only at e9;omega)⟩ (fun hS0=>?_)
 clear hK
 try simp only [Act.put,tka,tkb,tkc]
 replace hv:=hv.kept g9 (.inr (Zk hv pT (by decide)))
 replace hM:=hM.keptV g9 pT (by decide) (by decide) (by decide)
 replace pR:=pR.kept g9 (by simp)
 replace bw:=bw.grown g9 bw.size (fun k hk=>by cases hk;omega)
 replace pT:=q9.out
 clear q9 g9
 refine tkv 5 4 (.int .i64 0) ?_
 refine wpAnyH_done (by kernel_rfl) ?_ _
 clear hS0
 have z0:=pR.cell 0
 have z1:=pR.cell 1
 have z2:=pT.cell 0
 simp only [List.getElem?_cons_zero,List.getElem?_cons_succ] at z0 z1 z2
 go_wp2
 refine bodyPost_ret (by simp [results,Tryz.results14,go_sem,z0,z1,z2];try rfl) rfl ?_
 obtain ⟨e1,e2,e3,e4⟩:=HE.out
 rw [e1,e2,e3,e4]
 exact ⟨UQ.mk9 hv hM,bw⟩


def Dq (rows:List (List I3)) (e:E3):E3 × Zy × Bool:=ZG rows 19 (Yh e.1) ([],0)
def Wu (rows:List (List I3)) (e:E3):Bool:=(Dq rows e).2.2 && decide ((Dq rows e).1=e)
theorem GQ (rows:List (List I3)):Wp rows []:=⟨rfl,by simp⟩
theorem Td {k:ByteArray} (h:Wz k=true):k.size=15∧Zc (Yh k)=true:=by
 unfold Wz at h
 simpa using h


def etB (rows:List (List I3)) (e:E3):Bool:=Zf rows && (YY e && Wu rows e)
def etC (rows:List (List I3)) (e:E3):Int:=if (Zf rows && YY e)=true then 0 else 1


theorem Fc (w:World) (n:Nat):Below w.heap.size w (w.drewN n):=⟨rfl,rfl,rfl,Nat.le_refl _,fun _ _=>rfl⟩

theorem J2 (a a':Option Addr) (len cap cap':Nat) (xs ys:List Int) (w:World) (h:Yn .i64 w a len cap xs) (h':Yn .i64 w a' len cap' ys) (hpos:len≠0) :
  Calls Tryz.prog 70 #[.slice a len cap,.slice a' len cap'] w fun e w'=>e=.returned (.bool (decide (xs=ys)))∧Below w.heap.size w w':=by
 obtain ⟨hl,hlc,hcm,hcase⟩:=h
 obtain ⟨hl',hlc',hcm',hcase'⟩:=h'
 unfold maxLen at hcm hcm'
 rcases hcase with h0' | ⟨b,off,rfl,hblt,hcell⟩
 ·exact absurd h0' hpos
 rcases hcase' with h0' | ⟨b',off',rfl,hblt',hcell'⟩
 ·exact absurd h0' hpos
 have hne:((len:Int) != (len:Int))=false:=by simp
 obtain ⟨fin,hfin⟩:∃ fin,fin=decide (xs=ys):=⟨_,rfl⟩
 rw [← hfin]
 have HF:Hid (fin=decide (xs=ys)):=hfin
 clear hfin
 go_enter Tryz.func70,Tryz.ntmps70
 go_wp2
 go_loopw [13] (fun si wr=>∃ (k:Nat),k≤len∧si=.int .i64 k∧Hid (xs.take k=ys.take k)∧Below w.heap.size w wr) (fun si _=>len - (intOf si).toNat)
 case atStart=>exact ⟨0,by omega,rfl,by simp [Hid],Below.refl _ _⟩
 case round =>
  obtain ⟨k,hk,rfl,hH',hbel⟩:=hrel
  by_cases hlt:k<len
  ·have c0:=hcell k hlt
   have e0:=hcell' k hlt
   rw [← hbel.cell (p:=⟨b,_,none⟩) hblt] at c0
   rw [← hbel.cell (p:=⟨b',_,none⟩) hblt'] at e0
   have hlt':(k:Int)<(len:Int):=by omega
   have hk0:(0:Int)≤(k:Int):=by omega
   have hxg:Hid (xs.getD k 0=xs[k]'(by omega)∧ys.getD k 0=ys[k]'(by omega)):=⟨by simp [List.getD,hl,hlt],by simp [List.getD,hl',hlt]⟩
   by_cases hxy:xs.getD k 0=ys.getD k 0
   ·have hH2:Hid (xs.take (k+1)=ys.take (k+1)):=by
     rw [Hid,List.take_succ_eq_append_getElem (by omega),List.take_succ_eq_append_getElem (by omega),hH'.out,← hxg.out.1,← hxg.out.2,hxy]
    rw [← hxy] at e0
    clear hcell hcell' hxg hxy hH'
    generalize xs.getD k 0=x at c0 e0
    have hxx:(x != x)=false:=by simp
    go_wp2_with fail
    go_quiet (fail)
    have hb2:Below w.heap.size w (wr.drewN nq):=Zb hbel (Fc _ _)
    go_wp2
    go_roundw
    case rel=>exact ⟨k+1,by omega,by go_num,hH2,hb2⟩
    case measure=>simp [intOf];omega
   obtain rfl:fin=false:=by
    rw [HF.out,decide_eq_false_iff_not]
    intro h
    subst h
    exact hxy rfl
   clear hcell hcell' hxg hH' HF
   generalize xs.getD k 0=x at c0 hxy
   generalize ys.getD k 0=y at e0 hxy
   have hxx:(x != y)=true:=by simp [hxy]
   have hb2:∀ nq,Below w.heap.size w (wr.drewN nq):=fun nq=>Zb hbel (Fc _ _)
   go_wp2_with fail
   go_quiet (fail)
   go_wp2
   go_ret
   exact ⟨rfl,hb2 _⟩
  obtain rfl:k=len:=by omega
  obtain rfl:fin=true:=by
   rw [HF.out,decide_eq_true_eq]
   have h9:=hH'.out
   rwa [List.take_of_length_le (by omega),List.take_of_length_le (by omega)] at h9
  clear hcell hcell' hH' HF
  go_wp2
  go_ret
  exact ⟨rfl,hbel⟩


theorem Qk (w:World) (n:Nat):Below w.heap.size w (w.drewN n):=⟨rfl,rfl,rfl,Nat.le_refl _,fun _ _=>rfl⟩

theorem DL (a a':Option Addr) (len len' cap cap':Nat) (xs ys:List I3) (w:World) (h:Zr w a len cap xs) (h':Zr w a' len' cap' ys) (hlen:len=len') (hpos:len≠0) :
  Calls Tryz.prog 69 #[.slice a len cap,.slice a' len' cap'] w fun e w'=>e=.returned (.bool (decide (xs=ys)))∧Below w.heap.size w w':=by
 subst hlen
 obtain ⟨hl,hlc,hcm,_,hcase⟩:=h
 obtain ⟨hl',hlc',hcm',_,hcase'⟩:=h'
 unfold maxLen at hcm hcm'
 rcases hcase with h0' | ⟨b,off,rfl,hblt,hcell⟩
 ·exact absurd h0' hpos
 rcases hcase' with h0' | ⟨b',off',rfl,hblt',hcell'⟩
 ·exact absurd h0' hpos
 have hne:((len:Int) != (len:Int))=false:=by simp
 go_enter Tryz.func69,Tryz.ntmps69
 go_wp2
 go_loopw [13] (fun si wr=>∃ (k:Nat),k≤len∧si=.int .i64 k∧xs.take k=ys.take k∧Below w.heap.size w wr) (fun si _=>len - (intOf si).toNat)
 case atStart=>exact ⟨0,by omega,rfl,by simp,Below.refl _ _⟩
 case round =>
  obtain ⟨k,hk,rfl,hH,hbel⟩:=hrel
  have hH':Hid (xs.take k=ys.take k):=hH
  clear hH
  by_cases hlt:k<len
  ·obtain ⟨c0,c1,c2⟩:=hcell k hlt
   obtain ⟨e0,e1,e2⟩:=hcell' k hlt
   rw [← hbel.cell (p:=⟨b,_,none⟩) hblt] at c0 c1 c2
   rw [← hbel.cell (p:=⟨b',_,none⟩) hblt'] at e0 e1 e2
   have hlt':(k:Int)<(len:Int):=by omega
   have hk0:(0:Int)≤(k:Int):=by omega
   have hxg:Hid (xs.getD k (0,0,0)=xs[k]'(by omega)∧ys.getD k (0,0,0)=ys[k]'(by omega)):=⟨by simp [List.getD,hl,hlt],by simp [List.getD,hl',hlt]⟩
   by_cases hxy:xs.getD k (0,0,0)=ys.getD k (0,0,0)
   ·have hH2:Hid (xs.take (k+1)=ys.take (k+1)):=by
     rw [Hid,List.take_succ_eq_append_getElem (by omega),List.take_succ_eq_append_getElem (by omega),hH'.out,← hxg.out.1,← hxg.out.2,hxy]
    rw [← hxy] at e0 e1 e2
    clear hcell hcell' hxg hxy hH'
    generalize xs.getD k (0,0,0)=x at c0 c1 c2 e0 e1 e2
    obtain ⟨x0,x1,x2⟩:=x
    simp only [] at c0 c1 c2 e0 e1 e2
    go_wp2_with fail
    go_quiet (fail)
    have hb2:Below w.heap.size w (wr.drewN nq):=Zb hbel (Qk _ _)
    go_wp2
    go_roundw
    case rel=>exact ⟨k+1,by omega,by go_num,hH2.out,hb2⟩
    case measure=>simp [intOf];omega
   have hff:Hid (decide (xs=ys)=false):=by
    rw [Hid,decide_eq_false_iff_not]
    intro h
    subst h
    exact hxy rfl
   clear hcell hcell' hxg hH'
   generalize xs.getD k (0,0,0)=x at c0 c1 c2 hxy
   generalize ys.getD k (0,0,0)=y at e0 e1 e2 hxy
   obtain ⟨x0,x1,x2⟩:=x
   obtain ⟨y0,y1,y2⟩:=y
   simp only [] at c0 c1 c2 e0 e1 e2
   have hb2:∀ nq,Below w.heap.size w (wr.drewN nq):=fun nq=>Zb hbel (Qk _ _)
   by_cases h0:x0=y0
   ·subst h0
    by_cases h1:x1=y1
    ·subst h1
     have h2:(x2 == y2)=false:=by
      simp only [beq_eq_false_iff_ne]
      intro h
      exact hxy (by rw [h])
     clear hxy
     go_wp2_with fail
     go_quiet (fail)
     go_wp2
     go_ret
     exact ⟨by rw [hff.out];rfl,hb2 _⟩
    have h1':(x1 == y1)=false:=by simpa using h1
    clear hxy
    go_wp2_with fail
    go_quiet (fail)
    go_wp2
    go_ret
    exact ⟨by rw [hff.out];rfl,hb2 _⟩
   have h0':(x0 == y0)=false:=by simpa using h0
   clear hxy
   go_wp2_with fail
   go_quiet (fail)
   go_wp2
   go_ret
   exact ⟨by rw [hff.out];rfl,hb2 _⟩
  obtain rfl:k=len:=by omega
  have hff:decide (xs=ys)=true:=by
   have:=hH'.out
   rw [List.take_of_length_le (by omega),List.take_of_length_le (by omega)] at this
   simpa using this
  clear hcell hcell' hH'
  go_wp2
  go_ret
  exact ⟨by rw [hff];rfl,hbel⟩

theorem JY (a a':Option Addr) (len len' cap cap':Nat) (w:World) (hlen:len≠len') :
  Calls Tryz.prog 69 #[.slice a len cap,.slice a' len' cap'] w fun e w'=>e=.returned (.bool false)∧Below w.heap.size w w':=by
 have hne:((len:Int) != (len':Int))=true:=by simp;omega
 go_enter Tryz.func69,Tryz.ntmps69
 go_wp2
 go_ret
 exact ⟨rfl,Below.refl _ _⟩
theorem JZ (a a':Option Addr) (cap cap':Nat) (w:World) :
  Calls Tryz.prog 69 #[.slice a 0 cap,.slice a' 0 cap'] w fun e w'=>e=.returned (.bool true)∧Below w.heap.size w w':=by
 go_enter Tryz.func69,Tryz.ntmps69
 go_wp2
 refine wp_loop_rounds 1 ?_
 rw [rounds_succ]
 go_wp2
 go_ret
 exact ⟨rfl,Below.refl _ _⟩
theorem Fo (a a':Option Addr) (len len' cap cap':Nat) (xs ys:List I3) (w:World) (h:Zr w a len cap xs) (h':Zr w a' len' cap' ys) :
  Calls Tryz.prog 69 #[.slice a len cap,.slice a' len' cap'] w fun e w'=>e=.returned (.bool (decide (xs=ys)))∧Below w.heap.size w w':=by
 by_cases hl:len=len'
 ·by_cases h0:len=0
  ·subst h0
   subst hl
   obtain rfl:xs=[]:=List.length_eq_zero_iff.1 h.1
   obtain rfl:ys=[]:=List.length_eq_zero_iff.1 h'.1
   simpa using JZ a a' cap cap' w
  exact DL a a' len len' cap cap' xs ys w h h' hl h0
 have hd:decide (xs=ys)=false:=by
  rw [decide_eq_false_iff_not]
  intro e
  subst e
  exact hl (h.1.symm.trans h'.1)
 rw [hd]
 exact JY a a' len len' cap cap' w hl
theorem J0 (a a':Option Addr) (len len' cap cap':Nat) (w:World) (hlen:len≠len') :
  Calls Tryz.prog 70 #[.slice a len cap,.slice a' len' cap'] w fun e w'=>e=.returned (.bool false)∧Below w.heap.size w w':=by
 have hne:((len:Int) != (len':Int))=true:=by simp;omega
 go_enter Tryz.func70,Tryz.ntmps70
 go_wp2
 go_ret
 exact ⟨rfl,Below.refl _ _⟩
theorem J1 (a a':Option Addr) (cap cap':Nat) (w:World) :
  Calls Tryz.prog 70 #[.slice a 0 cap,.slice a' 0 cap'] w fun e w'=>e=.returned (.bool true)∧Below w.heap.size w w':=by
 go_enter Tryz.func70,Tryz.ntmps70
 go_wp2
 refine wp_loop_rounds 1 ?_
 rw [rounds_succ]
 go_wp2
 go_ret
 exact ⟨rfl,Below.refl _ _⟩
theorem Fp (a a':Option Addr) (len len' cap cap':Nat) (xs ys:List Int) (w:World) (h:Yn .i64 w a len cap xs) (h':Yn .i64 w a' len' cap' ys) :
  Calls Tryz.prog 70 #[.slice a len cap,.slice a' len' cap'] w fun e w'=>e=.returned (.bool (decide (xs=ys)))∧Below w.heap.size w w':=by
 by_cases hl:len=len'
 ·by_cases h0:len=0
  ·subst h0
   subst hl
   obtain rfl:xs=[]:=List.length_eq_zero_iff.1 h.1
   obtain rfl:ys=[]:=List.length_eq_zero_iff.1 h'.1
   simpa using J1 a a' cap cap' w
  exact (by subst hl;exact J2 a a' len cap cap' xs ys w h h' h0)
 have hd:decide (xs=ys)=false:=by
  rw [decide_eq_false_iff_not]
  intro e
  subst e
  exact hl (h.1.symm.trans h'.1)
 rw [hd]
 exact J0 a a' len len' cap cap' w hl
end Go.Proofs.YtgmhhegckcionaaGreatDoor
