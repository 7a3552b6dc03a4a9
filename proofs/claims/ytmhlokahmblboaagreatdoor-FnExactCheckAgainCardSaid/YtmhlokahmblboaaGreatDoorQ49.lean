/-
  Joined: CkaS, VmLaid, CfrE, OmqE, CkwE, Vars.
-/
import Derived.Test.YtmhlokahmblboaaGreatDoorRows
import Derived.ProofKit
import Derived.OpenShut
import Derived.LaidMore
import Derived.MakeChecks
import Derived.Stop.LaidErr
import Derived.WalkSmall
import Derived.ChangeOld
import Derived.Test.YtmhlokahmblboaaGreatDoorQ43
import Derived.Test.YtmhlokahmblboaaGreatDoorQ45
import Derived.Test.YtmhlokahmblboaaGreatDoorQ48

namespace Go.Proofs.YtmhlokahmblboaaGreatDoor
set_option maxRecDepth 100000
set_option maxHeartbeats 16000000
open Go.RowKit
set_option linter.unusedVariables false
set_option linter.unusedSimpArgs false

theorem Tz (a:Option Addr) (len cap:Nat) (rows:List (List I3)) (am:Option Addr) (nm cm:Nat) (es:List E3) (w:World) (hC:Z1 w a len cap rows) (hA:Yr w am nm cm es) (hnil:am=none→cm=0) :
  Calls Tryz.prog 11 #[.agg #[.slice a len cap],.agg #[.slice am nm cm]] w fun x w'=>W6 x w' w.heap.size (agB rows es) (agN rows es) (agE rows es) (agC rows es)∧Below w.heap.size w w':=by
 have kO:=fun (W:World) (b:Below w.heap.size w W)=>T3 a len cap rows W (hC.below b)
 have kM:=fun (W:World) (b:Below w.heap.size w W)=>QB am nm cm es W (hA.below b).ents
 have bw:Below w.heap.size w ((((w.alloc (.cells #[.slice a len cap] 25)).alloc (.cells #[.slice am nm cm] 47)).alloc (.cells #[.slice none 0 0,.int .i64 0] 44)).alloc (.cells #[.slice none 0 0] 47)):=by go_grown
 have pP:Blk ((((w.alloc (.cells #[.slice a len cap] 25)).alloc (.cells #[.slice am nm cm] 47)).alloc (.cells #[.slice none 0 0,.int .i64 0] 44)).alloc (.cells #[.slice none 0 0] 47)) w.heap.size 25 [.slice a len cap]:=Zf _ (Zf _ (Zf _ (Zh _ _ _ rfl)))
 have pM:Blk ((((w.alloc (.cells #[.slice a len cap] 25)).alloc (.cells #[.slice am nm cm] 47)).alloc (.cells #[.slice none 0 0,.int .i64 0] 44)).alloc (.cells #[.slice none 0 0] 47)) (w.heap.size+1) 47 [.slice am nm cm]:=Zf _ (Zf _ (Zh _ _ _ (by simp)))
 have pR:Blk ((((w.alloc (.cells #[.slice a len cap] 25)).alloc (.cells #[.slice am nm cm] 47)).alloc (.cells #[.slice none 0 0,.int .i64 0] 44)).alloc (.cells #[.slice none 0 0] 47)) (w.heap.size+1+1) 44 [.slice none 0 0,.int .i64 0]:=Zf _ (Zh _ _ _ (by simp))
 have pT:Blk ((((w.alloc (.cells #[.slice a len cap] 25)).alloc (.cells #[.slice am nm cm] 47)).alloc (.cells #[.slice none 0 0,.int .i64 0] 44)).alloc (.cells #[.slice none 0 0] 47)) (w.heap.size+1+1+1) 47 [.slice none 0 0]:=Zh _ _ _ (by simp)
 have hszU:w.heap.size+4≤((((w.alloc (.cells #[.slice a len cap] 25)).alloc (.cells #[.slice am nm cm] 47)).alloc (.cells #[.slice none 0 0,.int .i64 0] 44)).alloc (.cells #[.slice none 0 0] 47)).heap.size:=by simp
 go_enter Tryz.func11,Tryz.ntmps11
 go_wp2_with fail
 generalize ((((w.alloc (.cells #[.slice a len cap] 25)).alloc (.cells #[.slice am nm cm] 47)).alloc (.cells #[.slice none 0 0,.int .i64 0] 44)).alloc (.cells #[.slice none 0 0] 47))=U at *
 go_wp2_with (refine Zc rfl 25 _ rfl w.heap.size rfl pP _ Tryz.underlying25 rfl (by kernel_rfl) ?_)
 refine (kO U bw).mono ?_
 rintro e w1 ⟨rfl,hb⟩
 replace bw:=Zm bw hb
 replace pP:=pP.below hb
 replace pM:=pM.below hb
 replace pR:=pR.below hb
 replace pT:=pT.below hb
 replace hszU:=Nat.le_trans hszU hb.size
 clear hb kO
 cases hp:Zq rows
 ·have HE:Hid (agC rows es=1∧agB rows es=[]∧agN rows es=0∧agE rows es=[]):=Rb (fun h9=>by rw [h9.1] at hp;cases hp)
  clear hA kM pM
  have r0:=pR.cell 0
  have r1:=pR.cell 1
  have t0:=pT.cell 0
  have fr0:=pR.frozen 0
  have fr1:=pR.frozen 1
  have ft0:=pT.frozen 0
  have pZ:=((pR.set 0 (.slice none 0 0)).set 1 (.int .i64 0)).off ⟨w.heap.size+1+1+1,0,none⟩ (.slice none 0 0) (by simp)
  have pY:=(((pT.off ⟨w.heap.size+1+1,0,none⟩ (.slice none 0 0) (by simp)).off ⟨w.heap.size+1+1,1,none⟩ (.int .i64 0) (by simp)).set 0 (.slice none 0 0))
  simp only [List.set_cons_zero,List.set_cons_succ] at pZ pY
  have z0:=pZ.cell 0
  have z1:=pZ.cell 1
  have y0:=pY.cell 0
  simp only [List.getElem?_cons_zero,List.getElem?_cons_succ] at z0 z1 y0 r0 r1 t0
  have h1:w.heap.size≤w.heap.size+1+1:=by omega
  have h2:w.heap.size≤w.heap.size+1+1+1:=by omega
  have bz:=((bw.setCell (p:=⟨w.heap.size+1+1,0,none⟩) h1 (.slice none 0 0)).setCell (p:=⟨w.heap.size+1+1,1,none⟩) h1 (.int .i64 0)).setCell (p:=⟨w.heap.size+1+1+1,0,none⟩) h2 (.slice none 0 0)
  clear pZ pY pR pT pP
  go_wp2
  refine bodyPost_ret (by simp [results,Tryz.results11,go_sem,z0,z1,y0];try rfl) rfl ?_
  obtain ⟨e1,e2,e3,e4⟩:=HE.out
  rw [e1,e2,e3,e4]
  exact ⟨W6.nil9,bz⟩
 have g0:=pM.cell 0
 simp only [List.getElem?_cons_zero] at g0
 go_wp2_with fail
 clear g0
 refine (kM _ bw).mono ?_
 rintro e w1m ⟨rfl,hb⟩
 replace bw:=Zm bw hb
 replace pP:=pP.below hb
 replace pM:=pM.below hb
 replace pR:=pR.below hb
 replace pT:=pT.below hb
 replace hszU:=Nat.le_trans hszU hb.size
 clear hb kM
 cases hme:YQ es
 ·have HE:Hid (agC rows es=1∧agB rows es=[]∧agN rows es=0∧agE rows es=[]):=Rb (fun h9=>by rw [h9.2] at hme;cases hme)
  clear hA pM
  have r0:=pR.cell 0
  have r1:=pR.cell 1
  have t0:=pT.cell 0
  have fr0:=pR.frozen 0
  have fr1:=pR.frozen 1
  have ft0:=pT.frozen 0
  have pZ:=((pR.set 0 (.slice none 0 0)).set 1 (.int .i64 0)).off ⟨w.heap.size+1+1+1,0,none⟩ (.slice none 0 0) (by simp)
  have pY:=(((pT.off ⟨w.heap.size+1+1,0,none⟩ (.slice none 0 0) (by simp)).off ⟨w.heap.size+1+1,1,none⟩ (.int .i64 0) (by simp)).set 0 (.slice none 0 0))
  simp only [List.set_cons_zero,List.set_cons_succ] at pZ pY
  have z0:=pZ.cell 0
  have z1:=pZ.cell 1
  have y0:=pY.cell 0
  simp only [List.getElem?_cons_zero,List.getElem?_cons_succ] at z0 z1 y0 r0 r1 t0
  have h1:w.heap.size≤w.heap.size+1+1:=by omega
  have h2:w.heap.size≤w.heap.size+1+1+1:=by omega
  have bz:=((bw.setCell (p:=⟨w.heap.size+1+1,0,none⟩) h1 (.slice none 0 0)).setCell (p:=⟨w.heap.size+1+1,1,none⟩) h1 (.int .i64 0)).setCell (p:=⟨w.heap.size+1+1+1,0,none⟩) h2 (.slice none 0 0)
  clear pZ pY pR pT pP
  go_wp2
  refine bodyPost_ret (by simp [results,Tryz.results11,go_sem,z0,z1,y0];try rfl) rfl ?_
  obtain ⟨e1,e2,e3,e4⟩:=HE.out
  rw [e1,e2,e3,e4]
  exact ⟨W6.nil9,bz⟩
 obtain ⟨hl3,cs,hR⟩:=hC.rowsAt hp
 subst hl3
 have hU:=Nc hme
 have hE9:∀ e ∈ es,Yg e:=fun e he=>UP ((XA.1 hme).1 e he)
 have hvr:=S7 hp 19 ZD (es,0) ZP hE9
 have hfew:(Ya rows 19 ZD (es,0)).2.2=true→(Ya rows 19 ZD (es,0)).2.1.1.length≤2000:=fun h9=>(WA hp 19 ZD (es,0) ZP hU h9).1.few
 have kC:=fun (W:World) (b:Below w.heap.size w W)=>PR (cap:=cap) hp es hU hE9 W a cs am nm cm (hR.below b) (hA.below b) hnil
 have eF:=Pw (rows:=rows) ⟨hp,hme⟩
 have eK:=JL (rows:=rows) ⟨hp,hme⟩
 rw [show Ya rows 19 ZD (es,0)=agR rows es from rfl] at hvr hfew
 rw [show Ya rows 19 ZD (es,0)=agR rows es from rfl] at kC
 generalize agR rows es=r at *
 have kCx:=kC _ bw
 clear kC hU hE9 hA
 have g0:=pM.cell 0
 have g1:=pP.cell 0
 simp only [List.getElem?_cons_zero] at g0 g1
 go_wp2_with fail
 clear g0 g1
 refine kCx.mono ?_
 rintro e w2 ⟨⟨vb,a3,n3,c3,rfl,hv,hA3⟩,hb2⟩
 obtain ⟨va,vc,rfl⟩:=ZH hv
 have hw1:w.heap.size≤w1m.heap.size:=by omega
 replace bw:=Zm bw hb2
 replace pR:=pR.below hb2
 replace pT:=pT.below hb2
 replace hszU:=Nat.le_trans hszU hb2.size
 replace hv:=ZT hv hw1
 clear hb2 kCx pP pM
 have ut:r.2.2=r.2.2:=rfl
 have W3:=((w2.alloc (.cells #[.slice va r.1.2.1.length vc,.int .i64 (r.2.1.2:Int)] 44)).alloc (.cells #[.slice a3 n3 c3] 47))
 clear W3
 have hb3:Below w2.heap.size w2 ((w2.alloc (.cells #[.slice va r.1.2.1.length vc,.int .i64 (r.2.1.2:Int)] 44)).alloc (.cells #[.slice a3 n3 c3] 47)):=by go_grown
 have p5:Blk ((w2.alloc (.cells #[.slice va r.1.2.1.length vc,.int .i64 (r.2.1.2:Int)] 44)).alloc (.cells #[.slice a3 n3 c3] 47)) w2.heap.size 44 [.slice va r.1.2.1.length vc,.int .i64 (r.2.1.2:Int)]:=Zf _ (Zh _ _ _ rfl)
 have p6:Blk ((w2.alloc (.cells #[.slice va r.1.2.1.length vc,.int .i64 (r.2.1.2:Int)] 44)).alloc (.cells #[.slice a3 n3 c3] 47)) (w2.heap.size+1) 47 [.slice a3 n3 c3]:=Zh _ _ _ (by simp)
 replace bw:=Zm bw hb3
 replace pR:=pR.below hb3
 replace pT:=pT.below hb3
 replace hv:=Zp hv hb3
 replace hA3:=hA3.below hb3
 have hw2:w.heap.size+4≤w2.heap.size:=hszU
 clear hb3 hszU
 cases hok:r.2.2
 ·have HE:Hid (agC rows es=15∧agB rows es=[]∧agN rows es=0∧agE rows es=[]):=eF hok
  go_upto_region 4 with fail
  generalize ((w2.alloc (.cells #[.slice va r.1.2.1.length vc,.int .i64 (r.2.1.2:Int)] 44)).alloc (.cells #[.slice a3 n3 c3] 47))=U3 at *
  clear eF eK hv hA3 p5 p6 ut hfew hvr
  have r0:=pR.cell 0
  have r1:=pR.cell 1
  have t0:=pT.cell 0
  have fr0:=pR.frozen 0
  have fr1:=pR.frozen 1
  have ft0:=pT.frozen 0
  have pZ:=((pR.set 0 (.slice none 0 0)).set 1 (.int .i64 0)).off ⟨w.heap.size+1+1+1,0,none⟩ (.slice none 0 0) (by simp)
  have pY:=(((pT.off ⟨w.heap.size+1+1,0,none⟩ (.slice none 0 0) (by simp)).off ⟨w.heap.size+1+1,1,none⟩ (.int .i64 0) (by simp)).set 0 (.slice none 0 0))
  simp only [List.set_cons_zero,List.set_cons_succ] at pZ pY
  have z0:=pZ.cell 0
  have z1:=pZ.cell 1
  have y0:=pY.cell 0
  simp only [List.getElem?_cons_zero,List.getElem?_cons_succ] at z0 z1 y0 r0 r1 t0
  have h1:w.heap.size≤w.heap.size+1+1:=by omega
  have h2:w.heap.size≤w.heap.size+1+1+1:=by omega
  have bz:=((bw.setCell (p:=⟨w.heap.size+1+1,0,none⟩) h1 (.slice none 0 0)).setCell (p:=⟨w.heap.size+1+1,1,none⟩) h1 (.int .i64 0)).setCell (p:=⟨w.heap.size+1+1+1,0,none⟩) h2 (.slice none 0 0)
  clear pZ pY pR pT
  go_wp2
  refine bodyPost_ret (by simp [results,Tryz.results11,go_sem,z0,z1,y0];try rfl) rfl ?_
  obtain ⟨e1,e2,e3,e4⟩:=HE.out
  rw [e1,e2,e3,e4]
  exact ⟨W6.nil9,bz⟩
 have HE:Hid (agC rows es=0∧agB rows es=r.1.2.1∧agN rows es=r.2.1.2∧agE rows es=r.2.1.1):=eK hok
 go_upto_region 4 with fail
 generalize ((w2.alloc (.cells #[.slice va r.1.2.1.length vc,.int .i64 (r.2.1.2:Int)] 44)).alloc (.cells #[.slice a3 n3 c3] 47))=U3 at *
 have hl3:=hA3.1
 have hsm:SmE r.2.1.1:=⟨hfew hok,fun i hi=>by
  have h9:=hvr.2 (r.2.1.1.getD i e3d) (by rw [Y5 hi];exact List.getElem_mem _)
  have h1:=h9.bugs
  have h2:=h9.foot
  omega⟩
 have kW:=fun (W:World) (b:Below U3.heap.size U3 W)=>MV a3 n3 c3 r.2.1.1 W (hA3.below b).ents hsm
 have x0:=p5.cell 0
 have x1:=p5.cell 1
 have x2:=p6.cell 0
 simp only [List.getElem?_cons_zero,List.getElem?_cons_succ] at x0 x1 x2
 clear eF eK hA3 ut hfew hvr hsm
 go_wp2_with fail
 refine wp_region_held_drew (S:=(fun w'=>w'.cell? ⟨w2.heap.size,0,none⟩=some (.slice va r.1.2.1.length vc)∧w'.cell? ⟨w2.heap.size,1,none⟩=some (.int .i64 (r.2.1.2:Int))∧w'.cell? ⟨w2.heap.size+1,0,none⟩=some (.slice a3 n3 c3))) (by kernel_rfl) ⟨x0,x1,x2⟩ (fun hS0=>?_)
 refine tkv 0 31 (.agg #[.slice va r.1.2.1.length vc,.int .i64 (r.2.1.2:Int)]) ?_
 refine tkv 1 32 (.agg #[.slice a3 n3 c3]) ?_
 have bd:Below U3.heap.size U3 U3.drew:=by go_grown
 have kWx:=kW _ bd
 replace bw:=Zm bw bd
 replace pR:=pR.below bd
 replace pT:=pT.below bd
 replace hv:=Zp hv bd
 clear bd kW x0 x1 x2 p5 p6
 generalize U3.drew=V at *
 refine tkr 2 33 (fun K hK=>?_)
 go_simp
 refine kWx.mono ?_
 rintro x V2 ⟨⟨vm,rfl,hM⟩,hb⟩
 go_wp2_with fail
 refine hK.out _ _ ⟨Za hb _ _ hS0.1,Za hb _ _ hS0.2.1,Za hb _ _ hS0.2.2⟩ (fun hS0=>?_)
 clear hK kWx
 replace hM:=hM.lower bw.size
 replace bw:=Zm bw hb
 replace pR:=pR.below hb
 replace pT:=pT.below hb
 replace hv:=Zp hv hb
 clear hb
 obtain ⟨ma,mc,rfl⟩:=hM.slice9
 try simp only [Act.put,tka,tkb,tkc]
 refine tkz 3 (fun K hK=>?_)
 refine Zl rfl 44 _ _ rfl (w.heap.size+1+1) [.slice va r.1.2.1.length vc,.int .i64 (r.2.1.2:Int)] rfl rfl pR (by kernel_rfl) rfl rfl ?_
 intro V3 q8 g8
 refine hK.out _ _ ⟨Zn g8 hS0.1 (fun e=>by injection e with e9;dsimp only at e9;omega),Zn g8 hS0.2.1 (fun e=>by injection e with e9;dsimp only at e9;omega),Zn g8 hS0.2.2 (fun e=>by injection e with e9;dsimp only at e9;omega)⟩ (fun hS0=>?_)
 clear hK
 try simp only [Act.put,tka,tkb,tkc]
 replace hv:=hv.kept g8 (.inr (Zo hv pR (by decide)))
 replace hM:=hM.keptV g8 pR (by decide) (by decide) (by decide)
 replace pT:=pT.kept g8 (by simp)
 replace bw:=bw.grown g8 bw.size (fun k hk=>by cases hk;omega)
 replace pR:=q8.out
 clear q8 g8
 refine tkz 4 (fun K hK=>?_)
 refine Zl rfl 47 _ _ rfl (w.heap.size+1+1+1) [.slice ma r.2.1.1.length mc] rfl rfl pT (by kernel_rfl) rfl rfl ?_
 intro V4 q9 g9
 refine hK.out _ _ ⟨Zn g9 hS0.1 (fun e=>by injection e with e9;dsimp only at e9;omega),Zn g9 hS0.2.1 (fun e=>by injection e with e9;dsimp only at e9;omega),Zn g9 hS0.2.2 (fun e=>by injection e with e9;dsimp only at e9;omega)⟩ (fun hS0=>?_)
 clear hK
 try simp only [Act.put,tka,tkb,tkc]
 replace hv:=hv.kept g9 (.inr (Zo hv pT (by decide)))
 replace hM:=hM.keptV g9 pT (by decide) (by decide) (by decide)
 replace pR:=pR.kept g9 (by simp)
 replace bw:=bw.grown g9 bw.size (fun k hk=>by cases hk;omega)
 replace pT:=q9.out
 clear q9 g9
 refine tkv 5 6 (.int .i64 0) ?_
 refine wpAnyH_done (by kernel_rfl) ?_ _
 clear hS0
 have z0:=pR.cell 0
 have z1:=pR.cell 1
 have z2:=pT.cell 0
 simp only [List.getElem?_cons_zero,List.getElem?_cons_succ] at z0 z1 z2
 go_wp2
 refine bodyPost_ret (by simp [results,Tryz.results11,go_sem,z0,z1,z2];try rfl) rfl ?_
 obtain ⟨e1,e2,e3,e4⟩:=HE.out
 rw [e1,e2,e3,e4]
 exact ⟨W6.mk9 hv hM,bw⟩

open Go.RowKit Go.ChangeShapes

theorem Nv:Tryz.prog.globalNamed "loop.example/g00632/impl.vmShape"=some 0:=by kernel_rfl
theorem Ge:(Tryz.prog.globals[0]?).map (·.type)=some 254:=by kernel_rfl

section
variable {H : Type} {enc : TypeId × Value → H} {w : World} {base : Nat} {spare : Nat → Bool} {held : Bool}
theorem VE {fuel:Nat} {cs:List Value} {a b:Int} {p:List MemPlace} (h:DataW.trod enc Tryz.prog w base spare held fuel 253 cs=some (.agg [.lit (.int .i64 a),.lit (.int .i64 b)],p)):cs=[.int .i64 a,.int .i64 b]:=by
 obtain ⟨y0,y1,n,hx,hl,h0,h1⟩:=trod_struct2 Tryz.underlying253 h
 have hl2:cs.length=2:=hl.trans (by kernel_rfl)
 have hk:Tryz.prog.cellsOf 3=1:=by kernel_rfl
 match cs,hl2 with
 | [c0,c1],_ =>
  simp only [hk] at h0 h1
  obtain ⟨z0,e0,hy0,_⟩:=DataW.trod_int Tryz.underlying3 h0
  obtain ⟨z1,e1,hy1,_⟩:=DataW.trod_int Tryz.underlying3 h1
  simp at e0 e1
  subst hy0 hy1 e0 e1
  simp at hx
  simp [hx]
theorem Md {fuel:Nat} {cs:List Value} {p:List MemPlace} (h:DataW.trod enc Tryz.prog w base spare held fuel 254 cs=some (Rows.laid_loop_example_g00632_impl_vmShape,p)):cs=[3,6,4,9,2,3,6,9].map (Value.int .i64):=by
 obtain ⟨xs,m,_,hx,hl,hn,hi⟩:=DataW.trod_array Tryz.underlying254 h
 have hk:Tryz.prog.cellsOf 253=2:=by kernel_rfl
 have hl8:cs.length=8:=hl.trans (by kernel_rfl)
 rw [hk] at hi
 match xs,hn with
 | [⟨x0,p0⟩,⟨x1,p1⟩,⟨x2,p2⟩,⟨x3,p3⟩],_ =>
  unfold Rows.laid_loop_example_g00632_impl_vmShape at hx
  simp at hx
  obtain ⟨⟨rfl,rfl,rfl,rfl⟩,_⟩:=hx
  match cs,hl8 with
  | [c0,c1,c2,c3,c4,c5,c6,c7],_ =>
   have g0:=VE (hi 0 (by decide))
   have g1:=VE (hi 1 (by decide))
   have g2:=VE (hi 2 (by decide))
   have g3:=VE (hi 3 (by decide))
   simp at g0 g1 g2 g3
   simp [g0,g1,g2,g3]
end

theorem SS {W:World} {p:List (String × DataW Unit)} (hp:p=[("loop.example/g00632/impl.vmShape",Rows.laid_loop_example_g00632_impl_vmShape)]) (h:laidMetH Tryz.prog p W):ZQ W:=by
 subst hp
 rw [MakeChecks.laidMetH_plain _ _ _ (by kernel_rfl)] at h
 obtain ⟨ps,⟨g0,t0,cs0,f0,p0,q0,hg0,ht0,hv0,hd0,_,_⟩,_,_⟩:=h
 obtain rfl:=Option.some.inj (Nv.symm.trans hg0)
 obtain rfl:=Option.some.inj (Ge.symm.trans ht0)
 have hcs:=Md hd0
 unfold World.var? at hv0
 simp only [Nv,Option.bind_some] at hv0
 cases hh:W.heap[0]? with
 | none=>rw [hh] at hv0;cases hv0
 | some o =>
  rw [hh] at hv0
  cases o with
  | cells cs t fr =>
   simp only [Option.some.injEq] at hv0
   subst hv0
   intro i v hi
   rw [← hcs] at hi
   simp only [World.cell?,hh]
   simpa using hi
  | _=>cases hv0


theorem Rr {es:List E3} {t:Nat} (h:t<es.length):es.getD t e3d ∈ es:=by
 rw [List.getD_eq_getElem?_getD,List.getElem?_eq_getElem h]
 exact List.getElem_mem h
def Fi (es:List E3):Prop:=(∀ e ∈ es,e.fits)∧(∀ j,j≤es.length→ZA es j≤10000000)∧∀ t,t<es.length→(es.getD t e3d).2.1.length≤1048576∧(es.getD t e3d).2.2.length≤1048576
theorem Rg {es:List E3} (h:∀ e ∈ es,Yg e):∀ j,j≤es.length→ZA es j≤j*200
 | 0,_=>by simp [ZA]
 | j+1,hj=>by
  have ih:=Rg h j (by omega)
  have hg:es.getD j e3d ∈ es:=Rr (by omega)
  have h1:=(h _ hg).bugs
  have h2:=(h _ hg).foot
  rw [Vu es j (by omega)]
  unfold UL
  omega
theorem Mh:Fi []:=by
 refine ⟨fun e he=>?_,fun j hj=>?_,fun t ht=>?_⟩
 ·cases he
 ·cases j<;>simp [ZA]
 simp at ht
theorem GP {es:List E3} (h:∀ e ∈ es,Yg e∧e.1.size≤1048576) (hl:es.length≤2000):Fi es:=by
 refine ⟨fun e he=>Kp (h e he).1 ?_,fun j hj=>?_,fun t ht=>?_⟩
 ·have:=(h e he).2
  unfold maxLen
  omega
 ·have:=Rg (fun e he=>(h e he).1) j hj
  omega
 have hg:es.getD t e3d ∈ es:=Rr (by omega)
 have h1:=(h _ hg).1.bugs
 have h2:=(h _ hg).1.foot
 omega
theorem Fj (rows:List (List I3)) (es:List E3):(∀ x ∈ agB rows es,I3.fits x)∧(agB rows es).length≤100000∧Fi (agE rows es):=by
 by_cases h:Zq rows=true∧YQ es=true
 ·cases hk:(agR rows es).2.2
  ·obtain ⟨_,e2,_,e4⟩:=Pw h hk
   rw [e2,e4]
   exact ⟨fun x hx=>(List.not_mem_nil hx).elim,by simp,Mh⟩
  obtain ⟨_,e2,_,e4⟩:=JL h hk
  rw [e2,e4]
  obtain ⟨g1,g2⟩:=Nh h.1 h.2
  have hle:es.length+(Yd rows es.length 19 ZD (es,0)).2.2≤2000:=Decidable.byContradiction fun hn=>by
   rw [g2 hn] at hk
   cases hk
  obtain ⟨_,k2,k3,k4,k5⟩:=g1 hle
  have h5:=Vs (g:=es.length) h.1 19 ZD (es,0) ZP (fun e he=>UP ((XA.1 h.2).1 e he))
  rw [k2,k3]
  have h6:=h5.1.bugs
  exact ⟨fun x hx=>XB (h5.1.2.1 x hx),by omega,GP k5 k4⟩
 obtain ⟨_,e2,_,e4⟩:=Rb h
 rw [e2,e4]
 exact ⟨fun x hx=>(List.not_mem_nil hx).elim,by simp,Mh⟩


theorem Hq {w:World} {B e sz m n:Nat} {xs:List Value} {a:Option Addr} {c:Nat} (h:w.ownsRow B e sz (.slice a n c) m xs):∀ b o sp,a=some ⟨b,o,sp⟩→o=0:=by
 intro b o sp ha
 rcases h.2 with ⟨h1,_⟩ | ⟨g,cap,cur,h1,_⟩
 ·injection h1 with h3
  rw [ha] at h3
  cases h3
 injection h1 with h3
 rw [ha] at h3
 injection h3 with h4
 injection h4 with _ h5
theorem Hp {w:World} {B e sz m n:Nat} {xs:List Value} {a:Option Addr} {c:Nat} (h:w.ownsRow B e sz (.slice a n c) m xs):WU a c:=by
 refine ⟨Ts h,fun x hx=>?_⟩
 rcases h.2 with ⟨h1,_⟩ | ⟨g,cap,cur,h1,_⟩
 ·injection h1 with h3
  rw [hx] at h3
  cases h3
 injection h1 with h3
 rw [hx] at h3
 injection h3 with h4
 rw [h4]
theorem Ho {w:World} {B:Nat} {a:Option Addr} {n c:Nat} {es:List E3} (h:Yo w B (.slice a n c) es) (hf:∀ e ∈ es,e.fits):∃ L:List EQ,L.map (·.1)=es∧XC w a n c L∧(∀ x ∈ L,Kf x.2∧WU x.2.1.1 x.2.1.2.2)∧(a=none→c=0):=by
 obtain ⟨cs,h1,h2⟩:=h
 have hn0:=Ts h1
 rcases h1.2 with ⟨hv,h0⟩ | ⟨g,cap',cur,hv,_,hh,hn,hcm,_⟩
 ·injection hv with e1 e2 e3
  subst e1 e2 e3
  obtain rfl:es=[]:=List.eq_nil_of_length_eq_zero h0
  exact ⟨[],rfl,⟨rfl,Nat.le_refl _,by unfold maxLen;omega,by simp,.inl rfl⟩,by simp,hn0⟩
 injection hv with e1 e2 e3
 subst e1 e2 e3
 have hl:=h1.1
 have hc:=fun j (hj:j<es.length*3)=>h1.cellAt j hj
 have hg:∀ j,j<cs.length→cs[j]?=some (cs.getD j undef):=fun j hj=>by simp [List.getD,List.getElem?_eq_getElem hj]
 have hall:∀ t,t<es.length→∃ s:Sl2,w.cell? ⟨g,0+t*3,none⟩=some (.string (es.getD t e3d).1)∧w.cell? ⟨g,0+t*3+1,none⟩=some (.slice s.1.1 s.1.2.1 s.1.2.2)∧w.cell? ⟨g,0+t*3+2,none⟩=some (.slice s.2.1 s.2.2.1 s.2.2.2)∧YL w s (es.getD t e3d)∧Kf s∧WU s.1.1 s.1.2.2:=fun t ht=>by
  obtain ⟨k1,k2⟩:=h2.1 t ht
  obtain ⟨s,e1,e2⟩:=k2.slices
  have hO:Y0 w B (.slice s.1.1 s.1.2.1 s.1.2.2) (.slice s.2.1 s.2.2.1 s.2.2.2) (es.getD t e3d):=by rw [← e1,← e2];exact k2
  refine ⟨s,?_,?_,?_,Y0.mem hO (hf _ (Rr ht)),Hq hO.2,Hp hO.1⟩
  ·rw [Nat.zero_add,hc _ (by omega)];exact k1
  ·rw [Nat.zero_add,hc _ (by omega),hg _ (by omega),e1]
  rw [Nat.zero_add,hc _ (by omega),hg _ (by omega),e2]
 obtain ⟨Y,hY⟩:=Go.Deep.choose_lt (α:=Sl2) (n:=es.length) hall
 have hat:∀ t,t<es.length→((List.range es.length).map fun i=>((es.getD i e3d,Y i):EQ))[t]?=some (es.getD t e3d,Y t):=fun t ht=>by simp [List.getElem?_map,List.getElem?_range ht]
 refine ⟨(List.range es.length).map fun i=>(es.getD i e3d,Y i),?_,⟨by simp,hn,hcm,?_,.inr ⟨g,0,rfl,(h1.lt g rfl).2,fun j u hj=>?_⟩⟩,?_,hn0⟩
 ·apply List.ext_getElem?
  intro t
  by_cases ht:t<es.length
  ·rw [List.getElem?_map,hat t ht]
   simp [List.getD,List.getElem?_eq_getElem ht]
  rw [List.getElem?_eq_none (by simp;omega),List.getElem?_eq_none (by omega)]
 ·intro x hx
  obtain ⟨i,hi,rfl⟩:=List.mem_map.1 hx
  exact (hY i (List.mem_range.1 hi)).2.2.2.1
 ·obtain ⟨t,i,x,rfl,hi,hx,hu⟩:=UO hj
  have ht:t<es.length:=by
   have:=(List.getElem?_eq_some_iff.1 hx).1
   simpa using this
  rw [hat t ht] at hx
  cases hx
  obtain ⟨c0,c1,c2,_⟩:=hY t ht
  match i,hi with
  | 0,_=>simp [Yl] at hu;rw [← hu];exact c0
  | 1,_=>simp [Yl] at hu;rw [← hu,← Nat.add_assoc];exact c1
  | 2,_=>simp [Yl] at hu;rw [← hu,← Nat.add_assoc];exact c2
 intro x hx
 obtain ⟨i,hi,rfl⟩:=List.mem_map.1 hx
 exact (hY i (List.mem_range.1 hi)).2.2.2.2


theorem fnExactCheckAgain_walk (a0:Option Addr) (n0 c0:Nat) (z0:List (List I3)) (a1:Option Addr) (n1 c1:Nat) (z1:List E3) (w:World) (h0:Z1 w a0 n0 c0 z0) (h1:XF w a1 n1 c1 z1) (hG:ZQ w) :
  Calls Tryz.prog 4 #[.agg #[.slice a0 n0 c0],.agg #[.slice a1 n1 c1]] w fun e w'=>e=.returned (.bool true)∧Below w.heap.size w w':=by
 obtain ⟨g1,g2,g3,g4,g5⟩:=Fj z0 z1
 have f1:=h1.fits
 refine VS a0 n0 c0 z0 a1 n1 c1 z1 _ g1 g2 (agN z0 z1) _ g3 g4 g5 (agC z0 z1) w h0 h1 hG (fun a n c am w h hM=>?_) (fun a n c am w h hM hV=>?_)
 ·obtain ⟨L,rfl,hQ,hz,hn⟩:=Ho hM f1
  exact Tz a n c z0 am _ _ _ w h (hQ.entsZ (fun x hx=>(hz x hx).1)) hn
 obtain ⟨L,rfl,hQ,hz,hn⟩:=Ho hM f1
 exact UY a n c z0 am _ _ L w h hQ (fun x hx=>(hz x hx).2) hV

theorem fnExactCheckAgain_laid {W:World} (h:laidMetH Tryz.prog Rows.fnExactCheckAgainRow.laid W):ZQ W:=SS rfl h
theorem fnExactCheckAgain_door_met (os:Os) (args:Array Value):laidMetH Tryz.prog Rows.fnExactCheckAgainRow.laid ((World.doorLaid Tryz.prog 400 os).forCall (fun _ _=>0) ⟨#[],args,[]⟩).memory:=
 laidMetH_of_parts3 (fuel:=8) (laidMet_of_run' 8 (by kernel_rfl) (by kernel_rfl)) (by kernel_rfl) (by kernel_rfl)


def Ka (P:Program) (ns:List String):Bool:=ns.all fun n =>
 match P.globalNamed n with
 | some g=>match (P.globals[g]?).map (·.type) with
  | some t=>P.readableRec t && decide (t<P.types.size)
  | none=>false
 | none=>false

theorem var?_lt {P:Program} {W:World} {n:String} {g:Nat} {cs:Array Value} (hg:P.globalNamed n=some g) (hv:W.var? P n=some cs):g<W.heap.size:=by
 rcases Nat.lt_or_ge g W.heap.size with h | h
 ·exact h
 unfold World.var? at hv
 simp [hg,Array.getElem?_eq_none h] at hv

theorem vars_below {H:Type} {enc:TypeId × Value→H} {P:Program} {W W':World} (hl:laidOutB P=true) (bel:Below W.heap.size W W') :
  ∀ {ns:List String} {gs:List (DataW H)} {ps:List MemPlace},Ka P ns=true→DataW.TrodVars enc P W (fun _=>true) ns gs ps→DataW.TrodVars enc P W' (fun b=>decide (b<W.heap.size)) ns gs ps
 | [],[],ps,_,h=>h
 | [],_::_,_,_,h=>by cases h
 | _::_,[],_,_,h=>by cases h
 | n::ns,d::ds,ps,hf,h=>by
  obtain ⟨g,t,cs,fuel,p,q,hg,ht,hv,hd,hr,e⟩:=h
  simp only [Ka,List.all_cons,Bool.and_eq_true] at hf
  obtain ⟨hf1,hf2⟩:=hf
  rw [hg] at hf1
  simp only [ht,Bool.and_eq_true,decide_eq_true_eq] at hf1
  obtain ⟨fuel',hd'⟩:=Below.trod hl hf1.1 hf1.2 (v:=.agg cs) (⟨fuel,by simpa [Value.cells] using hd⟩:DataW.Trod enc P W 0 (fun _=>true) true t (.agg cs) d p) bel (DataW.trod_lt fuel _ _ _ hd)
  exact ⟨g,t,cs,fuel',p,q,hg,ht,var?_below bel hg (var?_lt hg hv) hv,by simpa [Value.cells] using hd',vars_below hl bel hf2 hr,e⟩

theorem vars_len {H:Type} {enc:TypeId × Value→H} {P:Program} {W:World} {spare:Nat→Bool}:∀ {ns:List String} {gs:List (DataW H)} {ps:List MemPlace},DataW.TrodVars enc P W spare ns gs ps→gs.length=ns.length
 | [],[],_,_=>rfl
 | [],_::_,_,h=>by cases h
 | _::_,[],_,h=>by cases h
 | _::_,_::_,_,h=>by
  obtain ⟨_,_,_,_,_,_,_,_,_,_,hr,_⟩:=h
  simp [vars_len hr]
end Go.Proofs.YtmhlokahmblboaaGreatDoor
