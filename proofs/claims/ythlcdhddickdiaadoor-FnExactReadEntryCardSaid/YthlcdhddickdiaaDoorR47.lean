/-
  Joined: VmLaid, ErrLaid.
-/
import Derived.Test.YthlcdhddickdiaaDoorRows
import Derived.ProofKit
import Derived.OpenShut
import Derived.LaidMore
import Derived.MakeChecks
import Derived.Stop.LaidErr
import Derived.LaidHandle
import Derived.Test.YthlcdhddickdiaaDoorR15
import Derived.Test.YthlcdhddickdiaaDoorR17

namespace Go.Proofs.YthlcdhddickdiaaDoor
set_option maxRecDepth 100000
set_option maxHeartbeats 16000000
open Go.RowKit Go.ChangeShapes

theorem gVmShape:Tryd.prog.globalNamed "loop.example/g00632/impl.vmShape"=some 0:=by kernel_rfl
theorem tVmShape:(Tryd.prog.globals[0]?).map (·.type)=some 144:=by kernel_rfl

section
variable {H : Type} {enc : TypeId × Value → H} {w : World} {base : Nat} {spare : Nat → Bool} {held : Bool}
theorem part_cells {fuel:Nat} {cs:List Value} {a b:Int} {p:List MemPlace} (h:DataW.trod enc Tryd.prog w base spare held fuel 143 cs=some (.agg [.lit (.int .i64 a),.lit (.int .i64 b)],p)):cs=[.int .i64 a,.int .i64 b]:=by
 obtain ⟨y0,y1,n,hx,hl,h0,h1⟩:=trod_struct2 Tryd.underlying143 h
 have hl2:cs.length=2:=hl.trans (by kernel_rfl)
 have hk:Tryd.prog.cellsOf 3=1:=by kernel_rfl
 match cs,hl2 with
 | [c0,c1],_ =>
  simp only [hk] at h0 h1
  obtain ⟨z0,e0,hy0,_⟩:=DataW.trod_int Tryd.underlying3 h0
  obtain ⟨z1,e1,hy1,_⟩:=DataW.trod_int Tryd.underlying3 h1
  simp at e0 e1
  subst hy0 hy1 e0 e1
  simp at hx
  simp [hx]
theorem shape_cells {fuel:Nat} {cs:List Value} {p:List MemPlace} (h:DataW.trod enc Tryd.prog w base spare held fuel 144 cs=some (Rows.laid_loop_example_g00632_impl_vmShape,p)):cs=[3,6,4,9,2,3,6,9].map (Value.int .i64):=by
 obtain ⟨xs,m,_,hx,hl,hn,hi⟩:=DataW.trod_array Tryd.underlying144 h
 have hk:Tryd.prog.cellsOf 143=2:=by kernel_rfl
 have hl8:cs.length=8:=hl.trans (by kernel_rfl)
 rw [hk] at hi
 match xs,hn with
 | [⟨x0,p0⟩,⟨x1,p1⟩,⟨x2,p2⟩,⟨x3,p3⟩],_ =>
  unfold Rows.laid_loop_example_g00632_impl_vmShape at hx
  simp at hx
  obtain ⟨⟨rfl,rfl,rfl,rfl⟩,_⟩:=hx
  match cs,hl8 with
  | [c0,c1,c2,c3,c4,c5,c6,c7],_ =>
   have g0:=part_cells (hi 0 (by decide))
   have g1:=part_cells (hi 1 (by decide))
   have g2:=part_cells (hi 2 (by decide))
   have g3:=part_cells (hi 3 (by decide))
   simp at g0 g1 g2 g3
   simp [g0,g1,g2,g3]
end

theorem vmShape_of_laid {W:World} {p:List (String × DataW Unit)} (hp:p=[("loop.example/g00632/impl.vmShape",Rows.laid_loop_example_g00632_impl_vmShape)]) (h:laidMetH Tryd.prog p W):VmShape W:=by
 subst hp
 rw [MakeChecks.laidMetH_plain _ _ _ (by kernel_rfl)] at h
 obtain ⟨ps,⟨g0,t0,cs0,f0,p0,q0,hg0,ht0,hv0,hd0,_,_⟩,_,_⟩:=h
 obtain rfl:=Option.some.inj (gVmShape.symm.trans hg0)
 obtain rfl:=Option.some.inj (tVmShape.symm.trans ht0)
 have hcs:=shape_cells hd0
 unfold World.var? at hv0
 simp only [gVmShape,Option.bind_some] at hv0
 cases hh:W.heap[0]? with
 | none=>rw [hh] at hv0;cases hv0
 | some o =>
  rw [hh] at hv0
  cases o with
  | cells cs t fr =>
   simp only [Option.some.injEq] at hv0
   subst hv0
   intro i v hi
   rw [← hcs] at hi
   simp only [World.cell?,hh]
   simpa using hi
  | _=>cases hv0

open Go.RowKit

theorem et_global:Tryd.prog.globalNamed "errors.errorType"=some 1:=by kernel_rfl
theorem et_rt:(Tryd.prog.cutTypes.find? (·.1 == "internal/reflectlite.rtype")).map (·.2)=some 164:=by kernel_rfl
theorem et_size:Tryd.prog.types.size=205:=by kernel_rfl
theorem et_oneRow:((List.range 205).filter fun t=>Tryd.prog.rowNamed t [101,114,114,111,114])=[110]:=by kernel_rfl
theorem et_handle:typeHandle Tryd.prog 110=.pointer (some ⟨3,110,none⟩):=by kernel_rfl

theorem errType_of_laid {W:World} {l:List (String × DataW Unit)} (hl:l=[("errors.errorType",Rows.laid_errors_errorType)]) (h:laidMetH Tryd.prog l W):ErrType W:=by
 subst hl
 have h':laidMet Tryd.prog [] W∧handlesMet Tryd.prog [("errors.errorType",Rows.laid_errors_errorType)] W:=h
 obtain ⟨name,u,ty,e1,e2,e3,e4,e5⟩:=h'.2 _ (List.mem_singleton.2 rfl)
 have en:name=[101,114,114,111,114]:=(Option.some.inj e1).symm
 subst en
 obtain rfl:=Option.some.inj (et_rt.symm.trans e2)
 have hm:ty ∈ (List.range 205).filter fun t=>Tryd.prog.rowNamed t [101,114,114,111,114]:=List.mem_filter.2 ⟨List.mem_range.2 (by rw [← et_size];exact e3),e4⟩
 rw [et_oneRow] at hm
 obtain rfl:=List.mem_singleton.1 hm
 rw [et_handle] at e5
 unfold ErrType
 simpa using World.var?_cell et_global e5 0

end Go.Proofs.YthlcdhddickdiaaDoor
