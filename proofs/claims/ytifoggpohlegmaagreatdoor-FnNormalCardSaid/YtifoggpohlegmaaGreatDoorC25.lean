/-
  Joined: VmDraw, EvA.
-/
import Derived.Test.YtifoggpohlegmaaGreatDoorC11
import Derived.Test.YtifoggpohlegmaaGreatDoorC18
import Derived.Test.YtifoggpohlegmaaGreatDoorC21
import Derived.Test.YtifoggpohlegmaaGreatDoorC23

namespace Go.Proofs.YtifoggpohlegmaaGreatDoor
set_option maxRecDepth 100000
set_option maxHeartbeats 16000000
open Go.RowKit
set_option linter.unusedVariables false
set_option linter.unusedSimpArgs false

theorem Went.of_below {p:Nat} {w w':World} (h:Below w.heap.size w w'):Went p w w':=⟨h.os,h.tape,h.output,h.size,fun k hk _=>h.block k hk⟩
theorem Blk.went {p g t:Nat} {w w':World} {cs:List Value} (h:Blk w g t cs) (hw:Went p w w') (hne:g≠p):Blk w' g t cs:=h.kept hw (fun e=>hne (by cases e;rfl))
theorem OwnV.went {p B:Nat} {w w':World} {s:S4} {m:V4} (h:OwnV w B s m) (hw:Went p w w') (hp:p<B):OwnV w' B s m:=⟨⟨owns_wn h.1.1 hw hp,owns_wn h.1.2.1 hw hp,owns_wn h.1.2.2.1 hw hp,owns_wn h.1.2.2.2 hw hp⟩,h.2⟩
theorem OwnI.went {p B:Nat} {w w':World} {s:Sl} {zs:List Int} (h:OwnI w B s zs) (hw:Went p w w') (hp:p<B):OwnI w' B s zs:=owns_wn h hw hp
theorem OwnV.lowerB {B B':Nat} {w:World} {s:S4} {m:V4} (h:OwnV w B s m) (hB:B'≤B):OwnV w B' s m:=⟨⟨own_lower h.1.1 hB,own_lower h.1.2.1 hB,own_lower h.1.2.2.1 hB,own_lower h.1.2.2.2 hB⟩,h.2⟩
theorem Src.belowD {p T:Nat} {c:Value} {w w':World} (h:Src w p c T) (hb:Below w.heap.size w w'):Src w' p c T:=h.grown (row:=none) ⟨hb.os,hb.tape,hb.output,hb.size,fun k hk _=>hb.block k hk⟩ (fun k e=>by cases e)
theorem zero_shape:shapeOk zeroV=true:=by decide
def vmC (t:S4):List Value:=[.slice t.1.1 t.1.2.1 t.1.2.2,.slice t.2.1.1 t.2.1.2.1 t.2.1.2.2,.slice t.2.2.1.1 t.2.2.1.2.1 t.2.2.1.2.2,.slice t.2.2.2.1 t.2.2.2.2.1 t.2.2.2.2.2]
theorem step_store_blkD {P:Program} {ops:Array Oper} {o:Oper} {a:Act} {w:World} {K:Act→World→Prop} {Q:Exit→Act→World→Prop} {E:Prop} (hgd:o.guard=none) (ty:TypeId) (x y:Operand) (ho:o.op=.store ty x y) (g:Nat) (vs:List Value) (hx:a.eval x=.pointer (some ⟨g,0,none⟩)) (hy:a.eval y=.agg vs.toArray) {t:Nat} {cs:List Value} (hB:Blk w g t cs)
  (hi:(P.info? ty).map (·.size)=some vs.length) (hl:cs.length=vs.length) (h1:vs.all (·.oneCell')=true)
  (h:∀ w',Hid (Blk w' g t vs)→w.grownBy w' (some g)→K (a.put o.dst undef) w'):if Region.wanted o (yielded ops a.tmps)=true then Oper.wp P o a w K Q else E:=by
 have hw:Region.wanted o (yielded ops a.tmps)=true:=by simp [Region.wanted,hgd]
 rw [if_pos hw]
 exact wp_store_row ty x y ho g vs.toArray hx hy t cs.toArray hB (by simpa using hi) (by simpa using hl) (by simpa using h1) (h _ (blk_setRow vs hB) (grown_setRow _ _ _))


def objM (x:I3):Int:=if x.1=1 then x.2.2 else if x.1=2 then x.2.1 else if x.1=5∨x.1=6 then 4+x.2.1 else -1
def eventM (rows:List (List I3)) (m:V4) (k:Nat):Int × Int × Int × Int:=(k,m.1.getD k 0,(insM rows m k).1,objM (insM rows m k))

theorem objOf_is (x0 x1 x2:Int) (hx:-1000≤x1∧x1≤1000) (w:World):Calls Tryz.prog 120 #[.agg #[.int .i64 x0,.int .i64 x1,.int .i64 x2]] w fun e w'=>e=.returned (.int .i64 (objM (x0,x1,x2)))∧Below w.heap.size w w':=by
 obtain ⟨r,hr⟩:∃ r,r=objM (x0,x1,x2):=⟨_,rfl⟩
 rw [← hr]
 unfold objM at hr
 simp only at hr
 have HR:Hid (r=if x0=1 then x2 else if x0=2 then x1 else if x0=5∨x0=6 then 4+x1 else -1):=hr
 clear hr
 have h4:IntKind.i64.wrap (4+x1)=4+x1:=IntWalk.i64_in _ (by omega)
 by_cases q1:x0=1
 ·have HF:Hid (r=x2):=by rw [Hid,HR.out];simp [q1]
  subst q1
  clear HR 
  go_enter Tryz.func120,Tryz.ntmps120
  go_wp2
  go_ret
  exact ⟨by rw [HF.out];rfl,by go_grown⟩
 by_cases q2:x0=2
 ·have HF:Hid (r=x1):=by rw [Hid,HR.out];simp [q2]
  subst q2
  clear HR q1
  go_enter Tryz.func120,Tryz.ntmps120
  go_wp2
  go_ret
  exact ⟨by rw [HF.out];rfl,by go_grown⟩
 by_cases q5:x0=5
 ·have HF:Hid (r=4+x1):=by rw [Hid,HR.out];simp [q5]
  subst q5
  clear HR q1 q2
  go_enter Tryz.func120,Tryz.ntmps120
  go_wp2
  go_ret
  exact ⟨by rw [HF.out];rfl,by go_grown⟩
 by_cases q6:x0=6
 ·have HF:Hid (r=4+x1):=by rw [Hid,HR.out];simp [q6]
  subst q6
  clear HR q1 q2 q5
  go_enter Tryz.func120,Tryz.ntmps120
  go_wp2
  go_ret
  exact ⟨by rw [HF.out];rfl,by go_grown⟩
 have HF:Hid (r=-1):=by rw [Hid,HR.out,if_neg q1,if_neg q2,if_neg (by omega)]
 have r1:(x0 == 1)=false:=by simp [q1]
 have r2:(x0 == 2)=false:=by simp [q2]
 have r5:(x0 == 5)=false:=by simp [q5]
 have r6:(x0 == 6)=false:=by simp [q6]
 clear HR q1 q2 q5 q6
 go_enter Tryz.func120,Tryz.ntmps120
 go_wp2
 go_ret
 exact ⟨by rw [HF.out];rfl,by go_grown⟩

theorem l05Obj_is (x0 x1 x2:Int) (hx:-1000≤x1∧x1≤1000) (w:World):Calls Tryz.prog 168 #[.agg #[.int .i64 x0,.int .i64 x1,.int .i64 x2]] w fun e w'=>e=.returned (.int .i64 (objM (x0,x1,x2)))∧Below w.heap.size w w':=by
 obtain ⟨r,hr⟩:∃ r,r=objM (x0,x1,x2):=⟨_,rfl⟩
 rw [← hr]
 unfold objM at hr
 simp only at hr
 have HR:Hid (r=if x0=1 then x2 else if x0=2 then x1 else if x0=5∨x0=6 then 4+x1 else -1):=hr
 clear hr
 have h4:IntKind.i64.wrap (4+x1)=4+x1:=IntWalk.i64_in _ (by omega)
 by_cases q1:x0=1
 ·have HF:Hid (r=x2):=by rw [Hid,HR.out];simp [q1]
  subst q1
  clear HR 
  go_enter Tryz.func168,Tryz.ntmps168
  go_wp2
  go_ret
  exact ⟨by rw [HF.out];rfl,by go_grown⟩
 by_cases q2:x0=2
 ·have HF:Hid (r=x1):=by rw [Hid,HR.out];simp [q2]
  subst q2
  clear HR q1
  go_enter Tryz.func168,Tryz.ntmps168
  go_wp2
  go_ret
  exact ⟨by rw [HF.out];rfl,by go_grown⟩
 by_cases q5:x0=5
 ·have HF:Hid (r=4+x1):=by rw [Hid,HR.out];simp [q5]
  subst q5
  clear HR q1 q2
  go_enter Tryz.func168,Tryz.ntmps168
  go_wp2
  go_ret
  exact ⟨by rw [HF.out];rfl,by go_grown⟩
 by_cases q6:x0=6
 ·have HF:Hid (r=4+x1):=by rw [Hid,HR.out];simp [q6]
  subst q6
  clear HR q1 q2 q5
  go_enter Tryz.func168,Tryz.ntmps168
  go_wp2
  go_ret
  exact ⟨by rw [HF.out];rfl,by go_grown⟩
 have HF:Hid (r=-1):=by rw [Hid,HR.out,if_neg q1,if_neg q2,if_neg (by omega)]
 have r1:(x0 == 1)=false:=by simp [q1]
 have r2:(x0 == 2)=false:=by simp [q2]
 have r5:(x0 == 5)=false:=by simp [q5]
 have r6:(x0 == 6)=false:=by simp [q6]
 clear HR q1 q2 q5 q6
 go_enter Tryz.func168,Tryz.ntmps168
 go_wp2
 go_ret
 exact ⟨by rw [HF.out];rfl,by go_grown⟩

theorem event_raw (g k p b off n c:Nat) (x0 x1 x2:Int) (w:World) (hk:k<3) (hp:p<n) (hp6:p≤6) (hx:-1000≤x1∧x1≤1000)
  (e0:w.cell? ⟨g,k*4,none⟩=some (.slice (some ⟨b,off,none⟩) n c)) (e1:w.cell? ⟨g,k*4+1,none⟩=some (.int .i64 p)) (q0:w.cell? ⟨b,off+p*3,none⟩=some (.int .i64 x0)) (q1:w.cell? ⟨b,off+p*3+1,none⟩=some (.int .i64 x1)) (q2:w.cell? ⟨b,off+p*3+2,none⟩=some (.int .i64 x2)) :
  Calls Tryz.prog 56 #[.pointer (some ⟨g,0,none⟩),.int .i64 k] w fun e w'=>e=.returned (.agg #[.int .i64 k,.int .i64 p,.int .i64 x0,.int .i64 (objM (x0,x1,x2))])∧Below w.heap.size w w':=by
 have hgl:g<w.heap.size:=World.block_lt_of_cell? _ _ e1
 have hk3:(k:Int)<3:=by omega
 have hpn:(p:Int)<(n:Int):=by omega
 have kO:=objOf_is x0 x1 x2 hx
 generalize objM (x0,x1,x2)=ob at *
 have bw:Below w.heap.size w (w.alloc (.cells #[.int .i64 0,.int .i64 0,.int .i64 0,.int .i64 0] 38)):=by go_grown
 have pR:Blk (w.alloc (.cells #[.int .i64 0,.int .i64 0,.int .i64 0,.int .i64 0] 38)) w.heap.size 38 [.int .i64 0,.int .i64 0,.int .i64 0,.int .i64 0]:=blkAt _ _ _ rfl
 replace e0:=cells_kept bw _ _ e0
 replace e1:=cells_kept bw _ _ e1
 replace q0:=cells_kept bw _ _ q0
 replace q1:=cells_kept bw _ _ q1
 replace q2:=cells_kept bw _ _ q2
 go_enter Tryz.func56,Tryz.ntmps56
 go_wp2_with fail
 have hX9:w.heap.size<(w.alloc (.cells #[.int .i64 0,.int .i64 0,.int .i64 0,.int .i64 0] 38)).heap.size:=pR.lt
 generalize (w.alloc (.cells #[.int .i64 0,.int .i64 0,.int .i64 0,.int .i64 0] 38))=W at *
 refine wp_region_held_drew (S:=(fun w'=>w'.cell? ⟨g,k*4,none⟩=some (.slice (some ⟨b,off,none⟩) n c)∧w'.cell? ⟨g,k*4+1,none⟩=some (.int .i64 p)∧w'.cell? ⟨b,off+p*3,none⟩=some (.int .i64 x0)∧w'.cell? ⟨b,off+p*3+1,none⟩=some (.int .i64 x1)∧w'.cell? ⟨b,off+p*3+2,none⟩=some (.int .i64 x2))) (by kernel_rfl) ⟨e0,e1,q0,q1,q2⟩ (fun hS0=>?_)
 refine tkm 0 12 (.pointer (some ⟨g,k*4,none⟩)) ?_
 refine tkm 1 13 (.pointer (some ⟨g,k*4,none⟩)) ?_
 refine tkm 2 14 (.pointer (some ⟨g,k*4,none⟩)) ?_
 refine tkm 3 15 (.slice (some ⟨b,off,none⟩) n c) ?_
 refine tkm 4 16 (.pointer (some ⟨g,k*4,none⟩)) ?_
 refine tkm 5 17 (.pointer (some ⟨g,k*4,none⟩)) ?_
 refine tkm 6 18 (.pointer (some ⟨g,k*4+1,none⟩)) ?_
 refine tkm 7 19 (.int .i64 p) ?_
 refine tkm 8 20 (.pointer (some ⟨b,off+p*3,none⟩)) ?_
 refine tkm 9 21 (.agg #[.int .i64 x0,.int .i64 x1,.int .i64 x2]) ?_
 refine tkr 10 6 (fun K hK=>?_)
 have hal:Below W.drew.heap.size W.drew (W.drew.alloc (.cells #[.int .i64 0,.int .i64 0,.int .i64 0] 159)):=by go_grown
 go_simp
 refine hK.out _ _ ?_ (fun hS1=>?_)
 ·exact ⟨cells_kept hal _ _ hS0.1,cells_kept hal _ _ hS0.2.1,cells_kept hal _ _ hS0.2.2.1,cells_kept hal _ _ hS0.2.2.2.1,cells_kept hal _ _ hS0.2.2.2.2⟩
 clear hK
 try simp only [Act.put,tka,tkb,tkc]
 refine tkz 11 (fun K hK=>?_)
 have hal2:Below W.drew.heap.size W.drew (W.drew.alloc (.cells #[.int .i64 x0,.int .i64 x1,.int .i64 x2] 159)):=by go_grown
 go_simp
 refine hK.out _ _ ?_ (fun hS2=>?_)
 ·exact ⟨cells_kept hal2 _ _ hS0.1,cells_kept hal2 _ _ hS0.2.1,cells_kept hal2 _ _ hS0.2.2.1,cells_kept hal2 _ _ hS0.2.2.2.1,cells_kept hal2 _ _ hS0.2.2.2.2⟩
 clear hK
 try simp only [Act.put,tka,tkb,tkc]
 refine wpAnyH_done (by kernel_rfl) ?_ _
 have hb:Below W.heap.size W (W.alloc (.cells #[.int .i64 x0,.int .i64 x1,.int .i64 x2] 159)).drew:=by go_grown
 have pX:Blk (W.alloc (.cells #[.int .i64 x0,.int .i64 x1,.int .i64 x2] 159)).drew W.heap.size 159 [.int .i64 x0,.int .i64 x1,.int .i64 x2]:=blkAt _ _ _ rfl
 replace bw:=bel_trans bw hb
 replace pR:=pR.below hb
 replace e1:=cells_kept hb _ _ e1
 skip
 clear hal hal2 hS0 hS1 hS2 e0 q0 q1 q2 hb
 go_wp2_with fail
 generalize (W.alloc (.cells #[.int .i64 x0,.int .i64 x1,.int .i64 x2] 159)).drew=V at *
 generalize W.heap.size=X at *
 have c0:=pX.cell 0
 have c1:=pX.cell 1
 have c2:=pX.cell 2
 simp only [List.getElem?_cons_zero,List.getElem?_cons_succ] at c0 c1 c2
 have hdr:Below V.heap.size V V.drew:=by go_grown
 refine wp_region_held_drew (S:=(fun w'=>w'.cell? ⟨g,k*4+1,none⟩=some (.int .i64 p)∧w'.cell? ⟨X,0,none⟩=some (.int .i64 x0)∧w'.cell? ⟨X,1,none⟩=some (.int .i64 x1)∧w'.cell? ⟨X,2,none⟩=some (.int .i64 x2))) (by kernel_rfl) ⟨e1,c0,c1,c2⟩ (fun hS0=>?_)
 refine tkm 0 22 (.int .i64 (k:Int)) ?_
 refine tkm 1 23 (.pointer (some ⟨g,k*4,none⟩)) ?_
 refine tkm 2 24 (.pointer (some ⟨g,k*4,none⟩)) ?_
 refine tkm 3 25 (.pointer (some ⟨g,k*4+1,none⟩)) ?_
 refine tkm 4 26 (.int .i64 p) ?_
 refine tkm 5 27 (.pointer (some ⟨X,0,none⟩)) ?_
 refine tkm 6 28 (.int .i64 x0) ?_
 refine tkm 7 29 (.agg #[.int .i64 x0,.int .i64 x1,.int .i64 x2]) ?_
 refine tkr 8 30 (fun K hK=>?_)
 go_simp
 refine (kO _).mono ?_
 rintro e U ⟨rfl,hb8⟩
 go_wp2_with fail
 refine hK.out _ _ ?_ (fun hS1=>?_)
 ·exact ⟨cells_kept hb8 _ _ hS0.1,cells_kept hb8 _ _ hS0.2.1,cells_kept hb8 _ _ hS0.2.2.1,cells_kept hb8 _ _ hS0.2.2.2⟩
 clear hK
 refine tkm 9 31 (.agg #[.int .i64 (k:Int),.int .i64 p,.int .i64 x0,.int .i64 ob]) ?_
 replace pR:=pR.below (bel_trans hdr hb8)
 replace bw:=bel_trans bw (bel_trans hdr hb8)
 refine tkz 10 (fun K hK=>?_)
 refine step_store_blkD rfl 38 _ _ rfl w.heap.size [.int .i64 (k:Int),.int .i64 p,.int .i64 x0,.int .i64 ob] rfl rfl pR (by kernel_rfl) rfl rfl ?_
 intro U2 pR2 g2
 have bz:=bw.grown g2 bw.size (fun j hj=>by cases hj;omega)
 have n1:(some g:Option Nat)≠some w.heap.size:=by simp;omega
 have n2:(some X:Option Nat)≠some w.heap.size:=by simp;omega
 refine hK.out _ _ ⟨cell_grownB g2 hS1.1 n1,cell_grownB g2 hS1.2.1 n2,cell_grownB g2 hS1.2.2.1 n2,cell_grownB g2 hS1.2.2.2 n2⟩ (fun hS2=>?_)
 clear hK
 try simp only [Act.put,tka,tkb,tkc]
 refine wpAnyH_done (by kernel_rfl) ?_ _
 clear hS0 hS1 hS2 n1 n2 g2 bw pR hdr hb8 kO c0 c1 c2 e1 pX
 go_wp2_with fail
 refine bodyPost_ret (results_blk1 Tryz.results56 _ _ _ _ _ _ rfl pR2.out Tryz.underlying38 rfl (by kernel_rfl)) rfl ?_
 exact ⟨rfl,bz⟩

theorem okI_mid {x:I3} (h:okI x=true):-1000≤x.2.1∧x.2.1≤1000:=by
 rcases okI_parts h with ⟨a,q,rfl,ha,hq⟩ | ⟨q,a,rfl,hq,ha⟩ | ⟨a,z,rfl,ha⟩ | ⟨a,z,rfl,ha,hz⟩ | ⟨a,z,rfl,ha⟩ | ⟨a,z,rfl,ha⟩ | ⟨a,z,rfl,ha,hz⟩ | ⟨a,z,rfl,ha⟩<;>(simp only;omega)
theorem event_is {w:World} {g:Nat} {cs:Sl × Sl × Sl} {rows:List (List I3)} {m:V4} (h:MachAt w g cs rows m) (hp:progOk rows=true) (hs:shapeOk m=true) {k:Nat} (hk:k<3) (hd:doneM rows m k=false) :
  Calls Tryz.prog 56 #[.pointer (some ⟨g,0,none⟩),.int .i64 k] w fun e w'=>e=.returned (.agg #[.int .i64 (eventM rows m k).1,.int .i64 (eventM rows m k).2.1,.int .i64 (eventM rows m k).2.2.1,.int .i64 (eventM rows m k).2.2.2])∧Below w.heap.size w w':=by
 obtain ⟨p,ep,hlt,hi,hok⟩:=at_ins hp hs hk hd
 have hl6:=(codeM_len hp hk).1
 have e0:=h.code hk
 have e1:=h.pc hk
 rw [ep] at e1
 obtain ⟨b,off,ea,hpn,q0,q1,q2⟩:=ins_at (h.2 k hk) hlt
 rw [← hi] at q0 q1 q2
 rw [ea] at e0
 have hm:=okI_mid hok
 unfold eventM
 rw [ep]
 generalize insM rows m k=x at *
 obtain ⟨x0,x1,x2⟩:=x
 exact event_raw g k p b off _ _ x0 x1 x2 w hk hpn (by omega) hm e0 e1 q0 q1 q2

end Go.Proofs.YtifoggpohlegmaaGreatDoor
