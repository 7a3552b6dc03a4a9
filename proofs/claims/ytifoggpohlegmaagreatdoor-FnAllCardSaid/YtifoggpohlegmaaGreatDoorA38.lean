/-
  Joined: AstS, VmLaid.
-/
import Derived.Test.YtifoggpohlegmaaGreatDoorRows
import Derived.ProofKit
import Derived.OpenShut
import Derived.LaidMore
import Derived.MakeChecks
import Derived.Stop.LaidErr
import Derived.Test.YtifoggpohlegmaaGreatDoorA37

namespace Go.Proofs.YtifoggpohlegmaaGreatDoor
set_option maxRecDepth 100000
set_option maxHeartbeats 16000000
open Go.RowKit
set_option linter.unusedVariables false
set_option linter.unusedSimpArgs false

def keysO (rows:List (List I3)):List ByteArray:=if codeF rows=0 then keysL (fullS rows) else []
theorem own_emptyS (W:World) (B:Nat) (hB:B≤W.heap.size):(W.alloc (.cells #[] 9)).ownsRow B 9 1 (.slice (some ⟨W.heap.size,0,none⟩) 0 0) 0 []:=own_emptyB W 9 1 B hB

theorem specAllStates_is (a:Option Addr) (len cap:Nat) (rows:List (List I3)) (w:World) (hC:Codes w a len cap rows) :
  Calls Tryz.prog 24 #[.agg #[.slice a len cap]] w fun e w'=>KeysGot e w' w.heap.size (keysO rows) (codeF rows)∧Below w.heap.size w w':=by
 have kO:=fun (W:World) (b:Below w.heap.size w W)=>specProgramOK_is a len cap rows W (hC.below b)
 have bw:Below w.heap.size w (w.alloc (.cells #[.slice a len cap] 25)):=by go_grown
 have pP:Blk (w.alloc (.cells #[.slice a len cap] 25)) w.heap.size 25 [.slice a len cap]:=blkAt _ _ _ rfl
 go_enter Tryz.func24,Tryz.ntmps24
 go_wp2_with fail
 generalize (w.alloc (.cells #[.slice a len cap] 25))=U at *
 have kOx:=kO U bw
 clear kO
 go_wp2_with (refine wpList_load_blk rfl 25 _ rfl w.heap.size rfl pP _ Tryz.underlying25 rfl (by kernel_rfl) ?_)
 refine kOx.mono ?_
 rintro e w1 ⟨rfl,hb⟩
 replace bw:=bel_trans bw hb
 replace pP:=pP.below hb
 clear hb kOx
 have hbs:=bw.size
 cases hp:progOk rows
 ·have HG:Hid (KeysGot (.returned (.tuple #[.slice (some ⟨w1.heap.size,0,none⟩) 0 0,.int .i64 1])) (w1.alloc (.cells #[] 9)) w.heap.size (keysO rows) (codeF rows)):=by
   have e1:codeF rows=1:=by unfold codeF;rw [hp];rfl
   have e2:keysO rows=[]:=by unfold keysO;rw [e1];rfl
   rw [e1,e2]
   exact ⟨_,rfl,own_emptyS w1 _ hbs⟩
  have b2:Below w.heap.size w (w1.alloc (.cells #[] 9)):=bel_trans bw (by go_grown)
  go_wp2
  refine bodyPost_ret (by simp [results,Tryz.results24,go_sem];try rfl) rfl ?_
  exact ⟨HG.out,b2⟩
 ·obtain ⟨hl3,cs,hR⟩:=hC.rowsAt hp
  subst hl3
  have kS:=l06States_is (cap:=cap) (hR.below bw) hp
  go_wp2_with (refine wpList_load_blk rfl 25 _ rfl w.heap.size rfl pP _ Tryz.underlying25 rfl (by kernel_rfl) ?_)
  refine kS.mono ?_
  rintro e w2 ⟨⟨v1,v2,v3,ts,fs,bs,rfl,hT,hF⟩,hb⟩
  have hbB:=bw.size
  replace bw:=bel_trans bw hb
  clear hb kS
  by_cases hf:(fullS rows).length≤2000
  ·obtain ⟨rfl,_,_⟩:=hF hf
   have hd:decide ((fullS rows).length≤2000)=true:=decide_eq_true hf
   obtain ⟨ka,kn,kc,rfl⟩:=own_slice6 hT.ks
   have HG:Hid (KeysGot (.returned (.tuple #[.slice ka kn kc,.int .i64 0])) w2 w.heap.size (keysO rows) (codeF rows)):=by
    have e1:codeF rows=0:=by unfold codeF;rw [hp,if_pos rfl,if_pos hf]
    have e2:keysO rows=keysL (fullS rows):=by unfold keysO;rw [if_pos e1]
    rw [e1,e2]
    exact ⟨_,rfl,own_lower hT.ks hbB⟩
   clear hT hF hf
   go_wp2
   refine bodyPost_ret (by simp [results,Tryz.results24,go_sem];try rfl) rfl ?_
   exact ⟨HG.out,bw⟩
  ·have hd:decide ((fullS rows).length≤2000)=false:=decide_eq_false hf
   have HG:Hid (KeysGot (.returned (.tuple #[.slice (some ⟨w2.heap.size,0,none⟩) 0 0,.int .i64 15])) (w2.alloc (.cells #[] 9)) w.heap.size (keysO rows) (codeF rows)):=by
    have e1:codeF rows=15:=by unfold codeF;rw [hp,if_pos rfl,if_neg hf]
    have e2:keysO rows=[]:=by unfold keysO;rw [e1];rfl
    rw [e1,e2]
    exact ⟨_,rfl,own_emptyS w2 _ bw.size⟩
   have b2:Below w.heap.size w (w2.alloc (.cells #[] 9)):=bel_trans bw (by go_grown)
   clear hT hF hf
   go_wp2
   refine bodyPost_ret (by simp [results,Tryz.results24,go_sem];try rfl) rfl ?_
   exact ⟨HG.out,b2⟩
theorem implAllStates_is (a:Option Addr) (len cap:Nat) (rows:List (List I3)) (w:World) (hC:Codes w a len cap rows) (hV:VmShape w) :
  Calls Tryz.prog 23 #[.agg #[.slice a len cap]] w fun e w'=>KeysGot e w' w.heap.size (keysO rows) (codeF rows)∧Below w.heap.size w w':=by
 unfold keysO
 by_cases h:codeF rows=0
 ·rw [if_pos h,h]
  exact implAllStates_ok a len cap rows w hC hV h
 ·rw [if_neg h]
  exact implAllStates_not a len cap rows w hC hV h

open Go.RowKit Go.ChangeShapes

theorem gVmShape:Tryz.prog.globalNamed "loop.example/g00632/impl.vmShape"=some 0:=by kernel_rfl
theorem tVmShape:(Tryz.prog.globals[0]?).map (·.type)=some 174:=by kernel_rfl

section
variable {H : Type} {enc : TypeId × Value → H} {w : World} {base : Nat} {spare : Nat → Bool} {held : Bool}
theorem part_cells {fuel:Nat} {cs:List Value} {a b:Int} {p:List MemPlace} (h:DataW.trod enc Tryz.prog w base spare held fuel 173 cs=some (.agg [.lit (.int .i64 a),.lit (.int .i64 b)],p)):cs=[.int .i64 a,.int .i64 b]:=by
 obtain ⟨y0,y1,n,hx,hl,h0,h1⟩:=trod_struct2 Tryz.underlying173 h
 have hl2:cs.length=2:=hl.trans (by kernel_rfl)
 have hk:Tryz.prog.cellsOf 3=1:=by kernel_rfl
 match cs,hl2 with
 | [c0,c1],_ =>
  simp only [hk] at h0 h1
  obtain ⟨z0,e0,hy0,_⟩:=DataW.trod_int Tryz.underlying3 h0
  obtain ⟨z1,e1,hy1,_⟩:=DataW.trod_int Tryz.underlying3 h1
  simp at e0 e1
  subst hy0 hy1 e0 e1
  simp at hx
  simp [hx]
theorem shape_cells {fuel:Nat} {cs:List Value} {p:List MemPlace} (h:DataW.trod enc Tryz.prog w base spare held fuel 174 cs=some (Rows.laid_loop_example_g00632_impl_vmShape,p)):cs=[3,6,4,9,2,3,6,9].map (Value.int .i64):=by
 obtain ⟨xs,m,_,hx,hl,hn,hi⟩:=DataW.trod_array Tryz.underlying174 h
 have hk:Tryz.prog.cellsOf 173=2:=by kernel_rfl
 have hl8:cs.length=8:=hl.trans (by kernel_rfl)
 rw [hk] at hi
 match xs,hn with
 | [⟨x0,p0⟩,⟨x1,p1⟩,⟨x2,p2⟩,⟨x3,p3⟩],_ =>
  unfold Rows.laid_loop_example_g00632_impl_vmShape at hx
  simp at hx
  obtain ⟨⟨rfl,rfl,rfl,rfl⟩,_⟩:=hx
  match cs,hl8 with
  | [c0,c1,c2,c3,c4,c5,c6,c7],_ =>
   have g0:=part_cells (hi 0 (by decide))
   have g1:=part_cells (hi 1 (by decide))
   have g2:=part_cells (hi 2 (by decide))
   have g3:=part_cells (hi 3 (by decide))
   simp at g0 g1 g2 g3
   simp [g0,g1,g2,g3]
end

theorem vmShape_of_laid {W:World} {p:List (String × DataW Unit)} (hp:p=[("loop.example/g00632/impl.vmShape",Rows.laid_loop_example_g00632_impl_vmShape)]) (h:laidMetH Tryz.prog p W):VmShape W:=by
 subst hp
 rw [MakeChecks.laidMetH_plain _ _ _ (by kernel_rfl)] at h
 obtain ⟨ps,⟨g0,t0,cs0,f0,p0,q0,hg0,ht0,hv0,hd0,_,_⟩,_,_⟩:=h
 obtain rfl:=Option.some.inj (gVmShape.symm.trans hg0)
 obtain rfl:=Option.some.inj (tVmShape.symm.trans ht0)
 have hcs:=shape_cells hd0
 unfold World.var? at hv0
 simp only [gVmShape,Option.bind_some] at hv0
 cases hh:W.heap[0]? with
 | none=>rw [hh] at hv0;cases hv0
 | some o =>
  rw [hh] at hv0
  cases o with
  | cells cs t fr =>
   simp only [Option.some.injEq] at hv0
   subst hv0
   intro i v hi
   rw [← hcs] at hi
   simp only [World.cell?,hh]
   simpa using hi
  | _=>cases hv0
end Go.Proofs.YtifoggpohlegmaaGreatDoor
