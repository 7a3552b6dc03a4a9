/-
  Joined: CkfS, TruS, TrfI.
-/
import Derived.Laws.StructEq
import Derived.Test.YtnffeclgboomoaaGreatDoorR07
import Derived.Test.YtnffeclgboomoaaGreatDoorR46

namespace Go.Proofs.YtnffeclgboomoaaGreatDoor
set_option maxRecDepth 100000
set_option maxHeartbeats 16000000
open Go.RowKit
set_option linter.unusedVariables false
set_option linter.unusedSimpArgs false

theorem Xp.keptV {w w':World} {B X t:Nat} {vb vf:Value} {e:E3} {cs:List Value} (h:Xp w B vb vf e) (hg:w.grownBy w' (some X)) (hX:Blk w X t cs) (h1:127≠t) (h2:3≠t):Xp w' B vb vf e:=⟨h.1.kept hg (.inr (Vv h.1 hX h1)),h.2.kept hg (.inr (Vv h.2 hX h2))⟩
theorem YW.keptV {w w':World} {B X t:Nat} {v:Value} {es:List E3} {cs:List Value} (h:YW w B v es) (hg:w.grownBy w' (some X)) (hX:Blk w X t cs) (h0:45≠t) (h1:127≠t) (h2:3≠t):YW w' B v es:=by
 obtain ⟨cs',r,q,h3⟩:=h
 exact ⟨cs',r.kept hg (.inr (Vv r hX h0)),fun t ht=>⟨(q t ht).1,(q t ht).2.keptV hg hX h1 h2⟩,h3⟩
def TM (rows:List (List I3)):E3 × ZE × Bool:=Z7 rows 19 ZF ([],0)
def WV (rows:List (List I3)):Int:=if Zq rows=true then (if (TM rows).2.2=true then 0 else 15) else 1
def Ul (rows:List (List I3)):List I3:=if WV rows=0 then (TM rows).1.2.1 else []
def UL (rows:List (List I3)):Nat:=if WV rows=0 then (TM rows).2.1.2 else 0
def Uv (rows:List (List I3)):List E3:=if WV rows=0 then (TM rows).2.1.1 else []
theorem MX {rows:List (List I3)} (h:Zq rows=false):WV rows=1∧Ul rows=[]∧UL rows=0∧Uv rows=[]:=by
 have e:WV rows=1:=by unfold WV;rw [h];rfl
 refine ⟨e,?_,?_,?_⟩<;>simp [Ul,UL,Uv,e]
theorem Ja {rows:List (List I3)} (h:Zq rows=true) (hk:(TM rows).2.2=false):WV rows=15∧Ul rows=[]∧UL rows=0∧Uv rows=[]:=by
 have e:WV rows=15:=by unfold WV;rw [if_pos h,hk];rfl
 refine ⟨e,?_,?_,?_⟩<;>simp [Ul,UL,Uv,e]
theorem Gy {rows:List (List I3)} (h:Zq rows=true) (hk:(TM rows).2.2=true):WV rows=0∧Ul rows=(TM rows).1.2.1∧UL rows=(TM rows).2.1.2∧Uv rows=(TM rows).2.1.1:=by
 have e:WV rows=0:=by unfold WV;rw [if_pos h,if_pos hk]
 refine ⟨e,?_,?_,?_⟩<;>simp [Ul,UL,Uv,e]
def Vl (x:Ending) (w':World) (B:Nat) (bz:List I3) (nz:Nat) (es:List E3) (c:Int):Prop:=∃ vb vm:Value,x=.returned (.tuple #[.agg #[vb,.int .i64 (nz:Int)],.agg #[vm],.int .i64 c])∧w'.ownsRow B 127 3 vb bz.length (Zl bz)∧YW w' B vm es
theorem Vl.mk9 {w':World} {B nz:Nat} {vb vm:Value} {bz:List I3} {es:List E3} {c:Int} (h:w'.ownsRow B 127 3 vb bz.length (Zl bz)) (hM:YW w' B vm es):Vl (.returned (.tuple #[.agg #[vb,.int .i64 (nz:Int)],.agg #[vm],.int .i64 c])) w' B bz nz es c:=⟨vb,vm,rfl,h,hM⟩
theorem Vl.nil9 {w':World} {B:Nat} {c:Int}:Vl (.returned (.tuple #[.agg #[.slice none 0 0,.int .i64 0],.agg #[.slice none 0 0],.int .i64 c])) w' B [] 0 [] c:=⟨_,_,rfl,World.ownsRow_nil _ _ _ _,YW.nil9 _ _⟩
theorem Tt (a:Option Addr) (len cap:Nat) (rows:List (List I3)) (w:World) (hC:Z8 w a len cap rows) :
  Calls Tryz.prog 18 #[.agg #[.slice a len cap]] w fun x w'=>Vl x w' w.heap.size (Ul rows) (UL rows) (Uv rows) (WV rows)∧Below w.heap.size w w':=by
 have kO:=fun (W:World) (b:Below w.heap.size w W)=>TZ a len cap rows W (hC.below b)
 have bw:Below w.heap.size w (((w.alloc (.cells #[.slice a len cap] 25)).alloc (.cells #[.slice none 0 0,.int .i64 0] 30)).alloc (.cells #[.slice none 0 0] 33)):=by go_grown
 have pP:Blk (((w.alloc (.cells #[.slice a len cap] 25)).alloc (.cells #[.slice none 0 0,.int .i64 0] 30)).alloc (.cells #[.slice none 0 0] 33)) w.heap.size 25 [.slice a len cap]:=Zi _ (Zi _ (Zj _ _ _ rfl))
 have pR:Blk (((w.alloc (.cells #[.slice a len cap] 25)).alloc (.cells #[.slice none 0 0,.int .i64 0] 30)).alloc (.cells #[.slice none 0 0] 33)) (w.heap.size+1) 30 [.slice none 0 0,.int .i64 0]:=Zi _ (Zj _ _ _ (by simp))
 have pT:Blk (((w.alloc (.cells #[.slice a len cap] 25)).alloc (.cells #[.slice none 0 0,.int .i64 0] 30)).alloc (.cells #[.slice none 0 0] 33)) (w.heap.size+1+1) 33 [.slice none 0 0]:=Zj _ _ _ (by simp)
 have hszU:w.heap.size+3≤(((w.alloc (.cells #[.slice a len cap] 25)).alloc (.cells #[.slice none 0 0,.int .i64 0] 30)).alloc (.cells #[.slice none 0 0] 33)).heap.size:=by simp
 go_enter Tryz.func18,Tryz.ntmps18
 go_wp2_with fail
 generalize (((w.alloc (.cells #[.slice a len cap] 25)).alloc (.cells #[.slice none 0 0,.int .i64 0] 30)).alloc (.cells #[.slice none 0 0] 33))=U at *
 go_wp2_with (refine Zc rfl 25 _ rfl w.heap.size rfl pP _ Tryz.underlying25 rfl (by kernel_rfl) ?_)
 refine (kO U bw).mono ?_
 rintro e w1 ⟨rfl,hb⟩
 replace bw:=Zn bw hb
 replace pP:=pP.below hb
 replace pR:=pR.below hb
 replace pT:=pT.below hb
 replace hszU:=Nat.le_trans hszU hb.size
 clear hb kO
 cases hp:Zq rows
 ·have HE:Hid (WV rows=1∧Ul rows=[]∧UL rows=0∧Uv rows=[]):=MX hp
  have r0:=pR.cell 0
  have r1:=pR.cell 1
  have t0:=pT.cell 0
  have fr0:=pR.frozen 0
  have fr1:=pR.frozen 1
  have ft0:=pT.frozen 0
  have pZ:=((pR.set 0 (.slice none 0 0)).set 1 (.int .i64 0)).off ⟨w.heap.size+1+1,0,none⟩ (.slice none 0 0) (by simp)
  have pY:=(((pT.off ⟨w.heap.size+1,0,none⟩ (.slice none 0 0) (by simp)).off ⟨w.heap.size+1,1,none⟩ (.int .i64 0) (by simp)).set 0 (.slice none 0 0))
  simp only [List.set_cons_zero,List.set_cons_succ] at pZ pY
  have z0:=pZ.cell 0
  have z1:=pZ.cell 1
  have y0:=pY.cell 0
  simp only [List.getElem?_cons_zero,List.getElem?_cons_succ] at z0 z1 y0 r0 r1 t0
  have h1:w.heap.size≤w.heap.size+1:=by omega
  have h2:w.heap.size≤w.heap.size+1+1:=by omega
  have bz:=((bw.setCell (p:=⟨w.heap.size+1,0,none⟩) h1 (.slice none 0 0)).setCell (p:=⟨w.heap.size+1,1,none⟩) h1 (.int .i64 0)).setCell (p:=⟨w.heap.size+1+1,0,none⟩) h2 (.slice none 0 0)
  clear pZ pY pR pT pP
  go_wp2
  refine bodyPost_ret (by simp [results,Tryz.results18,go_sem,z0,z1,y0];try rfl) rfl ?_
  obtain ⟨e1,e2,e3,e4⟩:=HE.out
  rw [e1,e2,e3,e4]
  exact ⟨Vl.nil9,bz⟩
 obtain ⟨hl3,cs,hR⟩:=hC.rowsAt hp
 subst hl3
 have hf3:=NV hp 19 ZF ([],0) ZW (by simp)
 have hvr:=SW hp 19 ZF ([],0) ZW (by simp)
 have hfew:(Z7 rows 19 ZF ([],0)).2.2=true→(Z7 rows 19 ZF ([],0)).2.1.1.length≤2000:=fun h9=>(Wt hp 19 ZF ([],0) ZW Ls h9).1.few
 have kC:=fun (W:World) (b:Below w.heap.size w W) (a':Option Addr) (c':Nat) (hA:YV W a' 0 c' []) (hn:a'=none→c'=0)=>Nf (cap:=cap) hp [] Ls (by simp) W a cs a' 0 c' (hR.below b) hA hn (fun e he=>Nat.le_trans (by omega) (hf3 e he).2)
 have eN:=fun h9=>MX (rows:=rows) h9
 have eF:=Ja (rows:=rows) hp
 have eK:=Gy (rows:=rows) hp
 rw [show Z7 rows 19 ZF ([],0)=TM rows from rfl] at hvr hfew hf3
 rw [show Z7 rows 19 ZF ([],0)=TM rows from rfl] at kC
 generalize TM rows=r at *
 have hb:Below w1.heap.size w1 (w1.alloc (.cells #[] 45)):=by go_grown
 have hA0:YV (w1.alloc (.cells #[] 45)) (some ⟨w1.heap.size,0,none⟩) 0 0 []:=⟨rfl,Nat.le_refl _,Nat.zero_le _,.inl rfl⟩
 have kCx:=kC _ (Zn bw hb) _ _ hA0 (fun h9=>by cases h9)
 clear kC hA0
 go_wp2_with (refine Zc rfl 25 _ rfl w.heap.size rfl pP _ Tryz.underlying25 rfl (by kernel_rfl) ?_)
 refine kCx.mono ?_
 rintro e w2 ⟨⟨vb,a3,n3,c3,rfl,hv,hA3⟩,hb2⟩
 obtain ⟨va,vc,rfl⟩:=ZH hv
 have hbA:=Zn hb hb2
 have hw1:w.heap.size≤w1.heap.size:=by omega
 replace bw:=Zn bw hbA
 replace pR:=pR.below hbA
 replace pT:=pT.below hbA
 replace hszU:=Nat.le_trans hszU hbA.size
 replace hv:=Z4 hv (show w.heap.size≤(w1.alloc (.cells #[] 45)).heap.size by simp;omega)
 clear hb hb2 hbA kCx pP
 have ut:r.2.2=r.2.2:=rfl
 have W3:=((w2.alloc (.cells #[.slice va r.1.2.1.length vc,.int .i64 (r.2.1.2:Int)] 30)).alloc (.cells #[.slice a3 n3 c3] 33))
 clear W3
 have hb3:Below w2.heap.size w2 ((w2.alloc (.cells #[.slice va r.1.2.1.length vc,.int .i64 (r.2.1.2:Int)] 30)).alloc (.cells #[.slice a3 n3 c3] 33)):=by go_grown
 have p5:Blk ((w2.alloc (.cells #[.slice va r.1.2.1.length vc,.int .i64 (r.2.1.2:Int)] 30)).alloc (.cells #[.slice a3 n3 c3] 33)) w2.heap.size 30 [.slice va r.1.2.1.length vc,.int .i64 (r.2.1.2:Int)]:=Zi _ (Zj _ _ _ rfl)
 have p6:Blk ((w2.alloc (.cells #[.slice va r.1.2.1.length vc,.int .i64 (r.2.1.2:Int)] 30)).alloc (.cells #[.slice a3 n3 c3] 33)) (w2.heap.size+1) 33 [.slice a3 n3 c3]:=Zj _ _ _ (by simp)
 replace bw:=Zn bw hb3
 replace pR:=pR.below hb3
 replace pT:=pT.below hb3
 replace hv:=Zs hv hb3
 replace hA3:=hA3.below hb3
 have hw2:w.heap.size+3≤w2.heap.size:=hszU
 clear hb3 hszU
 cases hok:r.2.2
 ·have HE:Hid (WV rows=15∧Ul rows=[]∧UL rows=0∧Uv rows=[]):=eF hok
  go_upto_region 4 with fail
  generalize ((w2.alloc (.cells #[.slice va r.1.2.1.length vc,.int .i64 (r.2.1.2:Int)] 30)).alloc (.cells #[.slice a3 n3 c3] 33))=U3 at *
  clear eN eF eK hv hA3 p5 p6 ut hfew hf3 hvr
  have r0:=pR.cell 0
  have r1:=pR.cell 1
  have t0:=pT.cell 0
  have fr0:=pR.frozen 0
  have fr1:=pR.frozen 1
  have ft0:=pT.frozen 0
  have pZ:=((pR.set 0 (.slice none 0 0)).set 1 (.int .i64 0)).off ⟨w.heap.size+1+1,0,none⟩ (.slice none 0 0) (by simp)
  have pY:=(((pT.off ⟨w.heap.size+1,0,none⟩ (.slice none 0 0) (by simp)).off ⟨w.heap.size+1,1,none⟩ (.int .i64 0) (by simp)).set 0 (.slice none 0 0))
  simp only [List.set_cons_zero,List.set_cons_succ] at pZ pY
  have z0:=pZ.cell 0
  have z1:=pZ.cell 1
  have y0:=pY.cell 0
  simp only [List.getElem?_cons_zero,List.getElem?_cons_succ] at z0 z1 y0 r0 r1 t0
  have h1:w.heap.size≤w.heap.size+1:=by omega
  have h2:w.heap.size≤w.heap.size+1+1:=by omega
  have bz:=((bw.setCell (p:=⟨w.heap.size+1,0,none⟩) h1 (.slice none 0 0)).setCell (p:=⟨w.heap.size+1,1,none⟩) h1 (.int .i64 0)).setCell (p:=⟨w.heap.size+1+1,0,none⟩) h2 (.slice none 0 0)
  clear pZ pY pR pT
  go_wp2
  refine bodyPost_ret (by simp [results,Tryz.results18,go_sem,z0,z1,y0];try rfl) rfl ?_
  obtain ⟨e1,e2,e3,e4⟩:=HE.out
  rw [e1,e2,e3,e4]
  exact ⟨Vl.nil9,bz⟩
 have HE:Hid (WV rows=0∧Ul rows=r.1.2.1∧UL rows=r.2.1.2∧Uv rows=r.2.1.1):=eK hok
 go_upto_region 4 with fail
 generalize ((w2.alloc (.cells #[.slice va r.1.2.1.length vc,.int .i64 (r.2.1.2:Int)] 30)).alloc (.cells #[.slice a3 n3 c3] 33))=U3 at *
 have hl3:=hA3.1
 have hsm:SmE r.2.1.1:=⟨hfew hok,fun i hi=>by
  have h9:=hvr.2 (r.2.1.1.getD i e3d) (by rw [Y4 hi];exact List.getElem_mem _)
  have h1:=h9.bugs
  have h2:=h9.foot
  omega⟩
 have kW:=fun (W:World) (b:Below U3.heap.size U3 W)=>Mk a3 n3 c3 r.2.1.1 W (hA3.below b) hsm
 have x0:=p5.cell 0
 have x1:=p5.cell 1
 have x2:=p6.cell 0
 simp only [List.getElem?_cons_zero,List.getElem?_cons_succ] at x0 x1 x2
 clear eN eF eK hA3 ut hfew hf3 hvr hsm
 go_wp2_with fail
 refine wp_region_held_drew (S:=(fun w'=>w'.cell? ⟨w2.heap.size,0,none⟩=some (.slice va r.1.2.1.length vc)∧w'.cell? ⟨w2.heap.size,1,none⟩=some (.int .i64 (r.2.1.2:Int))∧w'.cell? ⟨w2.heap.size+1,0,none⟩=some (.slice a3 n3 c3))) (by kernel_rfl) ⟨x0,x1,x2⟩ (fun hS0=>?_)
 refine tkx 0 25 (.agg #[.slice va r.1.2.1.length vc,.int .i64 (r.2.1.2:Int)]) ?_ ?_
 ·(intro w' hSw;(try dsimp only at hSw);go_simp;first | done | rfl | omega | (intro h9;omega) | (rw [IntKind.wrap_i64];omega))
 simp only [Act.put,tka,tkb,tkc]
 refine tkx 1 26 (.agg #[.slice a3 n3 c3]) ?_ ?_
 ·(intro w' hSw;(try dsimp only at hSw);go_simp;first | done | rfl | omega | (intro h9;omega) | (rw [IntKind.wrap_i64];omega))
 simp only [Act.put,tka,tkb,tkc]
 have bd:Below U3.heap.size U3 U3.drew:=by go_grown
 have kWx:=kW _ bd
 replace bw:=Zn bw bd
 replace pR:=pR.below bd
 replace pT:=pT.below bd
 replace hv:=Zs hv bd
 clear bd kW x0 x1 x2 p5 p6
 generalize U3.drew=V at *
 refine tkr 2 27 (fun K hK=>?_)
 go_simp
 refine kWx.mono ?_
 rintro x V2 ⟨⟨vm,rfl,hM⟩,hb⟩
 go_wp2_with fail
 refine hK.out _ _ ⟨Za hb _ _ hS0.1,Za hb _ _ hS0.2.1,Za hb _ _ hS0.2.2⟩ (fun hS0=>?_)
 clear hK kWx
 replace hM:=hM.lower bw.size
 replace bw:=Zn bw hb
 replace pR:=pR.below hb
 replace pT:=pT.below hb
 replace hv:=Zs hv hb
 clear hb
 obtain ⟨ma,mc,rfl⟩:=hM.slice9
 try simp only [Act.put,tka,tkb,tkc]
 refine tkz 3 (fun K hK=>?_)
 refine Zf rfl 30 _ _ rfl (w.heap.size+1) [.slice va r.1.2.1.length vc,.int .i64 (r.2.1.2:Int)] rfl rfl pR (by kernel_rfl) rfl rfl ?_
 intro V3 q8 g8
 refine hK.out _ _ ⟨Zg g8 hS0.1 (fun e=>by injection e with e9;dsimp only at e9;omega),Zg g8 hS0.2.1 (fun e=>by injection e with e9;dsimp only at e9;omega),Zg g8 hS0.2.2 (fun e=>by injection e with e9;dsimp only at e9;omega)⟩ (fun hS0=>?_)
 clear hK
 try simp only [Act.put,tka,tkb,tkc]
 replace hv:=hv.kept g8 (.inr (Zp hv pR (by decide)))
 replace hM:=hM.keptV g8 pR (by decide) (by decide) (by decide)
 replace pT:=pT.kept g8 (by simp)
 replace bw:=bw.grown g8 bw.size (fun k hk=>by cases hk;omega)
 replace pR:=q8.out
 clear q8 g8
 refine tkz 4 (fun K hK=>?_)
 refine Zf rfl 33 _ _ rfl (w.heap.size+1+1) [.slice ma r.2.1.1.length mc] rfl rfl pT (by kernel_rfl) rfl rfl ?_
 intro V4 q9 g9
 refine hK.out _ _ ⟨Zg g9 hS0.1 (fun e=>by injection e with e9;dsimp only at e9;omega),Zg g9 hS0.2.1 (fun e=>by injection e with e9;dsimp only at e9;omega),Zg g9 hS0.2.2 (fun e=>by injection e with e9;dsimp only at e9;omega)⟩ (fun hS0=>?_)
 clear hK
 try simp only [Act.put,tka,tkb,tkc]
 replace hv:=hv.kept g9 (.inr (Zp hv pT (by decide)))
 replace hM:=hM.keptV g9 pT (by decide) (by decide) (by decide)
 replace pR:=pR.kept g9 (by simp)
 replace bw:=bw.grown g9 bw.size (fun k hk=>by cases hk;omega)
 replace pT:=q9.out
 clear q9 g9
 refine tkx 5 4 (.int .i64 0) ?_ ?_
 ·(intro w' hSw;(try dsimp only at hSw);go_simp;first | done | rfl | omega | (intro h9;omega) | (rw [IntKind.wrap_i64];omega))
 simp only [Act.put,tka,tkb,tkc]
 refine wpAnyH_done (by kernel_rfl) ?_ _
 clear hS0
 have z0:=pR.cell 0
 have z1:=pR.cell 1
 have z2:=pT.cell 0
 simp only [List.getElem?_cons_zero,List.getElem?_cons_succ] at z0 z1 z2
 go_wp2
 refine bodyPost_ret (by simp [results,Tryz.results18,go_sem,z0,z1,z2];try rfl) rfl ?_
 obtain ⟨e1,e2,e3,e4⟩:=HE.out
 rw [e1,e2,e3,e4]
 exact ⟨Vl.mk9 hv hM,bw⟩


theorem Sh {k:ByteArray} (h:WH k=true):k.size=15∧Zh (XL k)=true:=by
 unfold WH at h
 simpa using h


theorem N9 (w:World):Xo w none 0 0 []:=⟨rfl,Nat.le_refl _,by unfold maxLen;omega,(fun x hx=>by cases hx),.inl rfl⟩
end Go.Proofs.YtnffeclgboomoaaGreatDoor
