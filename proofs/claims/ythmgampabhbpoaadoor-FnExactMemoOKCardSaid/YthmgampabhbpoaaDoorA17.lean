/-
  Joined: CopyG.
-/
import Derived.Laws.CopyOwn
import Derived.Laws.Tables
import Derived.Test.YthmgampabhbpoaaDoorA13

namespace Go.Proofs.YthmgampabhbpoaaDoor
set_option maxRecDepth 100000
set_option maxHeartbeats 16000000
open Go.RowKit

theorem blkAt {g:Nat} (w:World) (t:Nat) (cs:List Value) (h:g=w.heap.size):Blk (w.alloc (.cells cs.toArray t)) g t cs:=by
 subst h
 exact Blk.new w t cs
theorem blkOld {g t:Nat} {cs:List Value} {w:World} (o:Obj) (h:Blk w g t cs):Blk (w.alloc o) g t cs:=(Below.heap_alloc w o g h.lt).trans h
theorem grown_setRow (w:World) (g:Nat) (cs:Array Value):w.grownBy (w.setRow g cs) (some g):=
 ⟨rfl,rfl,rfl,by simp [World.setRow],fun k _ hk=>setRow_other w g k cs (fun e=>hk (by rw [e]))⟩

theorem Blk.kept {w w':World} {g t:Nat} {cs:List Value} {r:Option Nat} (h:Blk w g t cs) (hg:w.grownBy w' r) (hr:r≠some g):Blk w' g t cs:=(hg.block g h.lt (Ne.symm hr)).trans h
theorem load_blk {P:Program} {w:World} {g t:Nat} {cs:List Value} (ty:TypeId) (d:TypeDesc) (h:Blk w g t cs) (hu:P.underlying ty=some d) (hd:(match d with | .struct _ | .array _ _=>true | _=>false)=true) (hi:(P.info? ty).map (·.size)=some cs.length) :
  (loadVar ty ⟨g,0,none⟩).run P w=.ok (.agg cs.toArray) w:=run_loadVar_row w g t ty cs.toArray (0,0) d h hu hd (by simpa using hi)
theorem blk_setRow {w:World} {g t:Nat} {cs:List Value} (vs:List Value) (h:Blk w g t cs):Blk (w.setRow g vs.toArray) g t vs:=setRow_heap w g _ _ t _ h

section
variable {P : Program} {ops : Array Oper} {rest : List Oper} {o : Oper} {a : Act} {w : World} {Q : Exit → Act → World → Prop}
theorem wpList_load_blk (hgd:o.guard=none) (ty:TypeId) (x:Operand) (ho:o.op=.load ty x) (g:Nat) (hx:a.eval x=.pointer (some ⟨g,0,none⟩)) {t:Nat} {cs:List Value} (hB:Blk w g t cs) (d:TypeDesc)
  (hu:P.underlying ty=some d) (hd:(match d with | .struct _ | .array _ _=>true | _=>false)=true) (hi:(P.info? ty).map (·.size)=some cs.length)
  (h:wpList P ops Q rest (a.put o.dst (.agg cs.toArray)) w):wpList P ops Q (o::rest) a w:=
 wpList_load_row hgd ty x ho g hx t cs.toArray (0,0) d hB hu hd (by simpa using hi) h
theorem wpList_store_blk (hgd:o.guard=none) (ty:TypeId) (x y:Operand) (ho:o.op=.store ty x y) (g:Nat) (vs:List Value) (hx:a.eval x=.pointer (some ⟨g,0,none⟩)) (hy:a.eval y=.agg vs.toArray) {t:Nat} {cs:List Value} (hB:Blk w g t cs)
  (hi:(P.info? ty).map (·.size)=some vs.length) (hl:cs.length=vs.length) (h1:vs.all (·.oneCell')=true)
  (h:∀ w',Hid (Blk w' g t vs)→w.grownBy w' (some g)→wpList P ops Q rest (a.put o.dst undef) w'):wpList P ops Q (o::rest) a w:=
 wpList_store_row hgd ty x y ho g vs.toArray hx hy t cs.toArray hB (by simpa using hi) (by simpa using hl) (by simpa using h1) (h _ (blk_setRow vs hB) (grown_setRow _ _ _))
end

section
variable {P : Program} {fn : Func} {p q r : Tmp} {ty : TypeId}
theorem results_blk2 (h:fn.results=#[.cell p ty,.tmp q]) (tmps:Array Value) (w:World) (g t:Nat) (cs:List Value) (d:TypeDesc) (hp:tmps.getD p undef=.pointer (some ⟨g,0,none⟩)) (hB:Blk w g t cs)
  (hu:P.underlying ty=some d) (hd:(match d with | .struct _ | .array _ _=>true | _=>false)=true) (hi:(P.info? ty).map (·.size)=some cs.length) :
  (results fn tmps).run P w=.ok (.tuple #[.agg cs.toArray,tmps.getD q undef]) w:=by
 have hp':tmps[p]?.getD undef=.pointer (some ⟨g,0,none⟩):=by simpa using hp
 simp [results,h,hp',asAddr,load_blk ty d hB hu hd hi]
end
end Go.Proofs.YthmgampabhbpoaaDoor
