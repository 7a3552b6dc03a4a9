/-
  Joined: VmLaid, RowBelow, Vars.
-/
import Derived.Test.YtifoggpohlegmaaGreatDoorRows
import Derived.ProofKit
import Derived.OpenShut
import Derived.LaidMore
import Derived.MakeChecks
import Derived.Stop.LaidErr
import Derived.WalkSmall
import Derived.ChangeOld
import Derived.Test.YtifoggpohlegmaaGreatDoorC08

namespace Go.Proofs.YtifoggpohlegmaaGreatDoor
set_option maxRecDepth 100000
set_option maxHeartbeats 16000000
open Go.RowKit Go.ChangeShapes

theorem gVmShape:Tryz.prog.globalNamed "loop.example/g00632/impl.vmShape"=some 0:=by kernel_rfl
theorem tVmShape:(Tryz.prog.globals[0]?).map (·.type)=some 174:=by kernel_rfl

section
variable {H : Type} {enc : TypeId × Value → H} {w : World} {base : Nat} {spare : Nat → Bool} {held : Bool}
theorem part_cells {fuel:Nat} {cs:List Value} {a b:Int} {p:List MemPlace} (h:DataW.trod enc Tryz.prog w base spare held fuel 173 cs=some (.agg [.lit (.int .i64 a),.lit (.int .i64 b)],p)):cs=[.int .i64 a,.int .i64 b]:=by
 obtain ⟨y0,y1,n,hx,hl,h0,h1⟩:=trod_struct2 Tryz.underlying173 h
 have hl2:cs.length=2:=hl.trans (by kernel_rfl)
 have hk:Tryz.prog.cellsOf 3=1:=by kernel_rfl
 match cs,hl2 with
 | [c0,c1],_ =>
  simp only [hk] at h0 h1
  obtain ⟨z0,e0,hy0,_⟩:=DataW.trod_int Tryz.underlying3 h0
  obtain ⟨z1,e1,hy1,_⟩:=DataW.trod_int Tryz.underlying3 h1
  simp at e0 e1
  subst hy0 hy1 e0 e1
  simp at hx
  simp [hx]
theorem shape_cells {fuel:Nat} {cs:List Value} {p:List MemPlace} (h:DataW.trod enc Tryz.prog w base spare held fuel 174 cs=some (Rows.laid_loop_example_g00632_impl_vmShape,p)):cs=[3,6,4,9,2,3,6,9].map (Value.int .i64):=by
 obtain ⟨xs,m,_,hx,hl,hn,hi⟩:=DataW.trod_array Tryz.underlying174 h
 have hk:Tryz.prog.cellsOf 173=2:=by kernel_rfl
 have hl8:cs.length=8:=hl.trans (by kernel_rfl)
 rw [hk] at hi
 match xs,hn with
 | [⟨x0,p0⟩,⟨x1,p1⟩,⟨x2,p2⟩,⟨x3,p3⟩],_ =>
  unfold Rows.laid_loop_example_g00632_impl_vmShape at hx
  simp at hx
  obtain ⟨⟨rfl,rfl,rfl,rfl⟩,_⟩:=hx
  match cs,hl8 with
  | [c0,c1,c2,c3,c4,c5,c6,c7],_ =>
   have g0:=part_cells (hi 0 (by decide))
   have g1:=part_cells (hi 1 (by decide))
   have g2:=part_cells (hi 2 (by decide))
   have g3:=part_cells (hi 3 (by decide))
   simp at g0 g1 g2 g3
   simp [g0,g1,g2,g3]
end

theorem vmShape_of_laid {W:World} {p:List (String × DataW Unit)} (hp:p=[("loop.example/g00632/impl.vmShape",Rows.laid_loop_example_g00632_impl_vmShape)]) (h:laidMetH Tryz.prog p W):VmShape W:=by
 subst hp
 rw [MakeChecks.laidMetH_plain _ _ _ (by kernel_rfl)] at h
 obtain ⟨ps,⟨g0,t0,cs0,f0,p0,q0,hg0,ht0,hv0,hd0,_,_⟩,_,_⟩:=h
 obtain rfl:=Option.some.inj (gVmShape.symm.trans hg0)
 obtain rfl:=Option.some.inj (tVmShape.symm.trans ht0)
 have hcs:=shape_cells hd0
 unfold World.var? at hv0
 simp only [gVmShape,Option.bind_some] at hv0
 cases hh:W.heap[0]? with
 | none=>rw [hh] at hv0;cases hv0
 | some o =>
  rw [hh] at hv0
  cases o with
  | cells cs t fr =>
   simp only [Option.some.injEq] at hv0
   subst hv0
   intro i v hi
   rw [← hcs] at hi
   simp only [World.cell?,hh]
   simpa using hi
  | _=>cases hv0

open Go.RowKit

theorem IsRow.below {k:IntKind} {w w':World} {a:Option Addr} {len cap:Nat} {zs:List Int} (h:IsRow k w a len cap zs) (hb:Below w.heap.size w w'):IsRow k w' a len cap zs:=by
 rcases h with h | ⟨x,h1,h2,h3,h4,h5,h6⟩
 ·exact .inl h
 ·refine .inr ⟨x,h1,h2,h3,h4,fun i hi=>?_,h6⟩
  have hc:=h5 i hi
  have hlt:(x.add i).block<w.heap.size:=by
   rcases Nat.lt_or_ge (x.add i).block w.heap.size with h' | h'
   ·exact h'
   ·simp [World.cell?,Array.getElem?_eq_none h'] at hc
  rw [hb.cell hlt]
  exact hc
theorem IsRow.len_le {k:IntKind} {w:World} {a:Option Addr} {len cap:Nat} {zs:List Int} (h:IsRow k w a len cap zs):len≤maxLen:=by
 rcases h with ⟨_,rfl,_,_⟩ | ⟨x,h1,h2,h3,_⟩
 ·omega
 ·omega


def varsFit (P:Program) (ns:List String):Bool:=ns.all fun n =>
 match P.globalNamed n with
 | some g=>match (P.globals[g]?).map (·.type) with
  | some t=>P.readableRec t && decide (t<P.types.size)
  | none=>false
 | none=>false

theorem var?_lt {P:Program} {W:World} {n:String} {g:Nat} {cs:Array Value} (hg:P.globalNamed n=some g) (hv:W.var? P n=some cs):g<W.heap.size:=by
 rcases Nat.lt_or_ge g W.heap.size with h | h
 ·exact h
 ·unfold World.var? at hv
  simp [hg,Array.getElem?_eq_none h] at hv

theorem vars_below {H:Type} {enc:TypeId × Value→H} {P:Program} {W W':World} (hl:laidOutB P=true) (bel:Below W.heap.size W W') :
  ∀ {ns:List String} {gs:List (DataW H)} {ps:List MemPlace},varsFit P ns=true→DataW.TrodVars enc P W (fun _=>true) ns gs ps→DataW.TrodVars enc P W' (fun b=>decide (b<W.heap.size)) ns gs ps
 | [],[],ps,_,h=>h
 | [],_::_,_,_,h=>by cases h
 | _::_,[],_,_,h=>by cases h
 | n::ns,d::ds,ps,hf,h=>by
  obtain ⟨g,t,cs,fuel,p,q,hg,ht,hv,hd,hr,e⟩:=h
  simp only [varsFit,List.all_cons,Bool.and_eq_true] at hf
  obtain ⟨hf1,hf2⟩:=hf
  rw [hg] at hf1
  simp only [ht,Bool.and_eq_true,decide_eq_true_eq] at hf1
  obtain ⟨fuel',hd'⟩:=Below.trod hl hf1.1 hf1.2 (v:=.agg cs) (⟨fuel,by simpa [Value.cells] using hd⟩:DataW.Trod enc P W 0 (fun _=>true) true t (.agg cs) d p) bel (DataW.trod_lt fuel _ _ _ hd)
  exact ⟨g,t,cs,fuel',p,q,hg,ht,var?_below bel hg (var?_lt hg hv) hv,by simpa [Value.cells] using hd',vars_below hl bel hf2 hr,e⟩

theorem vars_len {H:Type} {enc:TypeId × Value→H} {P:Program} {W:World} {spare:Nat→Bool}:∀ {ns:List String} {gs:List (DataW H)} {ps:List MemPlace},DataW.TrodVars enc P W spare ns gs ps→gs.length=ns.length
 | [],[],_,_=>rfl
 | [],_::_,_,h=>by cases h
 | _::_,[],_,h=>by cases h
 | _::_,_::_,_,h=>by
  obtain ⟨_,_,_,_,_,_,_,_,_,_,hr,_⟩:=h
  simp [vars_len hr]
end Go.Proofs.YtifoggpohlegmaaGreatDoor
