/-
  Joined: Evs, EvC, VmLaid, RowBelow.
-/
import Derived.Stop.Asserts
import Derived.Recover
import Derived.Shelf.SlSortCmp.Insertion
import Derived.Shelf.SlSortCmp.NoneTotal
import Derived.Shelf.Spec.SlicesGrow
import Derived.Laws.AppendOwnNone
import Derived.Lib.SliceRun
import Derived.Lib.Hide
import Derived.Deep.MidRow
import Derived.Test.YtjgffnlmjmibgaaDoorRows
import Derived.ProofKit
import Derived.OpenShut
import Derived.LaidMore
import Derived.MakeChecks
import Derived.Stop.LaidErr
import Derived.Test.YtjgffnlmjmibgaaDoorL46

namespace Go.Proofs.YtjgffnlmjmibgaaDoor
set_option maxRecDepth 100000
set_option maxHeartbeats 16000000
open Go.RowKit
set_option linter.unusedVariables false
set_option linter.unusedSimpArgs false

def Evs (w:World) (a:Option Addr) (n:Nat) (xs:List I4):Prop:=xs.length=n∧n≤maxLen∧(n=0∨∃ g,a=some ⟨g,0,none⟩∧g<w.heap.size∧∀ t,t<n→w.cell? ⟨g,t*4,none⟩=some (.int .i64 (xs.getD t (0,0,0,0)).1)∧w.cell? ⟨g,t*4+1,none⟩=some (.int .i64 (xs.getD t (0,0,0,0)).2.1)∧w.cell? ⟨g,t*4+2,none⟩=some (.int .i64 (xs.getD t (0,0,0,0)).2.2.1)∧w.cell? ⟨g,t*4+3,none⟩=some (.int .i64 (xs.getD t (0,0,0,0)).2.2.2))
theorem Evs.below {w w':World} {a:Option Addr} {n:Nat} {xs:List I4} (h:Evs w a n xs) (hb:Below w.heap.size w w'):Evs w' a n xs:=by
 obtain ⟨h1,h2,h3 | ⟨g,rfl,hl,hc⟩⟩:=h
 ·exact ⟨h1,h2,.inl h3⟩
 ·refine ⟨h1,h2,.inr ⟨g,rfl,Nat.lt_of_lt_of_le hl hb.size,fun t ht=>?_⟩⟩
  obtain ⟨c0,c1,c2,c3⟩:=hc t ht
  exact ⟨(hb.cell (p:=⟨g,_,none⟩) hl).trans c0,(hb.cell (p:=⟨g,_,none⟩) hl).trans c1,(hb.cell (p:=⟨g,_,none⟩) hl).trans c2,(hb.cell (p:=⟨g,_,none⟩) hl).trans c3⟩


theorem ints_cellE {w:World} {a:Option Addr} {n c:Nat} {ks:List Int} (h:Ints .i64 w a n c ks) {i:Nat} (hi:i<n):∃ b off,a=some ⟨b,off,none⟩∧w.cell? ⟨b,off+i,none⟩=some (.int .i64 (ks.getD i 0))∧b<w.heap.size:=by
 obtain ⟨h1,h2,h3,h4⟩:=h
 rcases h4 with h4 | ⟨b,off,ha,hl,hc⟩
 ·omega
 ·exact ⟨b,off,ha,hc i hi,hl⟩

open Go.RowKit Go.ChangeShapes

theorem gVmShape:Tryd.prog.globalNamed "loop.example/g00632/impl.vmShape"=some 0:=by kernel_rfl
theorem tVmShape:(Tryd.prog.globals[0]?).map (·.type)=some 129:=by kernel_rfl

section
variable {H : Type} {enc : TypeId × Value → H} {w : World} {base : Nat} {spare : Nat → Bool} {held : Bool}
theorem part_cells {fuel:Nat} {cs:List Value} {a b:Int} {p:List MemPlace} (h:DataW.trod enc Tryd.prog w base spare held fuel 128 cs=some (.agg [.lit (.int .i64 a),.lit (.int .i64 b)],p)):cs=[.int .i64 a,.int .i64 b]:=by
 obtain ⟨y0,y1,n,hx,hl,h0,h1⟩:=trod_struct2 Tryd.underlying128 h
 have hl2:cs.length=2:=hl.trans (by kernel_rfl)
 have hk:Tryd.prog.cellsOf 3=1:=by kernel_rfl
 match cs,hl2 with
 | [c0,c1],_ =>
  simp only [hk] at h0 h1
  obtain ⟨z0,e0,hy0,_⟩:=DataW.trod_int Tryd.underlying3 h0
  obtain ⟨z1,e1,hy1,_⟩:=DataW.trod_int Tryd.underlying3 h1
  simp at e0 e1
  subst hy0 hy1 e0 e1
  simp at hx
  simp [hx]
theorem shape_cells {fuel:Nat} {cs:List Value} {p:List MemPlace} (h:DataW.trod enc Tryd.prog w base spare held fuel 129 cs=some (Rows.laid_loop_example_g00632_impl_vmShape,p)):cs=[3,6,4,9,2,3,6,9].map (Value.int .i64):=by
 obtain ⟨xs,m,_,hx,hl,hn,hi⟩:=DataW.trod_array Tryd.underlying129 h
 have hk:Tryd.prog.cellsOf 128=2:=by kernel_rfl
 have hl8:cs.length=8:=hl.trans (by kernel_rfl)
 rw [hk] at hi
 match xs,hn with
 | [⟨x0,p0⟩,⟨x1,p1⟩,⟨x2,p2⟩,⟨x3,p3⟩],_ =>
  unfold Rows.laid_loop_example_g00632_impl_vmShape at hx
  simp at hx
  obtain ⟨⟨rfl,rfl,rfl,rfl⟩,_⟩:=hx
  match cs,hl8 with
  | [c0,c1,c2,c3,c4,c5,c6,c7],_ =>
   have g0:=part_cells (hi 0 (by decide))
   have g1:=part_cells (hi 1 (by decide))
   have g2:=part_cells (hi 2 (by decide))
   have g3:=part_cells (hi 3 (by decide))
   simp at g0 g1 g2 g3
   simp [g0,g1,g2,g3]
end

theorem vmShape_of_laid {W:World} {p:List (String × DataW Unit)} (hp:p=[("loop.example/g00632/impl.vmShape",Rows.laid_loop_example_g00632_impl_vmShape)]) (h:laidMetH Tryd.prog p W):VmShape W:=by
 subst hp
 rw [MakeChecks.laidMetH_plain _ _ _ (by kernel_rfl)] at h
 obtain ⟨ps,⟨g0,t0,cs0,f0,p0,q0,hg0,ht0,hv0,hd0,_,_⟩,_,_⟩:=h
 obtain rfl:=Option.some.inj (gVmShape.symm.trans hg0)
 obtain rfl:=Option.some.inj (tVmShape.symm.trans ht0)
 have hcs:=shape_cells hd0
 unfold World.var? at hv0
 simp only [gVmShape,Option.bind_some] at hv0
 cases hh:W.heap[0]? with
 | none=>rw [hh] at hv0;cases hv0
 | some o =>
  rw [hh] at hv0
  cases o with
  | cells cs t fr =>
   simp only [Option.some.injEq] at hv0
   subst hv0
   intro i v hi
   rw [← hcs] at hi
   simp only [World.cell?,hh]
   simpa using hi
  | _=>cases hv0


theorem IsRow.below {k:IntKind} {w w':World} {a:Option Addr} {len cap:Nat} {zs:List Int} (h:IsRow k w a len cap zs) (hb:Below w.heap.size w w'):IsRow k w' a len cap zs:=by
 rcases h with h | ⟨x,h1,h2,h3,h4,h5,h6⟩
 ·exact .inl h
 ·refine .inr ⟨x,h1,h2,h3,h4,fun i hi=>?_,h6⟩
  have hc:=h5 i hi
  have hlt:(x.add i).block<w.heap.size:=by
   rcases Nat.lt_or_ge (x.add i).block w.heap.size with h' | h'
   ·exact h'
   ·simp [World.cell?,Array.getElem?_eq_none h'] at hc
  rw [hb.cell hlt]
  exact hc
theorem IsRow.len_le {k:IntKind} {w:World} {a:Option Addr} {len cap:Nat} {zs:List Int} (h:IsRow k w a len cap zs):len≤maxLen:=by
 rcases h with ⟨_,rfl,_,_⟩ | ⟨x,h1,h2,h3,_⟩
 ·omega
 ·omega
theorem IsRow.drew {k:IntKind} {w:World} {a:Option Addr} {len cap:Nat} {zs:List Int} (h:IsRow k w a len cap zs) (d:Nat):IsRow k (w.drewN d) a len cap zs:=h
end Go.Proofs.YtjgffnlmjmibgaaDoor
