/-
  Joined: CopyG, MrkT, RwL9.
-/
import Derived.Laws.CopyOwn
import Derived.Laws.Tables
import Derived.Test.YthmgampabhbpoaaDoorB12

namespace Go.Proofs.YthmgampabhbpoaaDoor
set_option maxRecDepth 100000
set_option maxHeartbeats 16000000
open Go.RowKit

theorem blkAt {g:Nat} (w:World) (t:Nat) (cs:List Value) (h:g=w.heap.size):Blk (w.alloc (.cells cs.toArray t)) g t cs:=by
 subst h
 exact Blk.new w t cs
theorem blkOld {g t:Nat} {cs:List Value} {w:World} (o:Obj) (h:Blk w g t cs):Blk (w.alloc o) g t cs:=(Below.heap_alloc w o g h.lt).trans h
theorem grown_setRow (w:World) (g:Nat) (cs:Array Value):w.grownBy (w.setRow g cs) (some g):=
 ⟨rfl,rfl,rfl,by simp [World.setRow],fun k _ hk=>setRow_other w g k cs (fun e=>hk (by rw [e]))⟩

theorem Blk.kept {w w':World} {g t:Nat} {cs:List Value} {r:Option Nat} (h:Blk w g t cs) (hg:w.grownBy w' r) (hr:r≠some g):Blk w' g t cs:=(hg.block g h.lt (Ne.symm hr)).trans h
theorem load_blk {P:Program} {w:World} {g t:Nat} {cs:List Value} (ty:TypeId) (d:TypeDesc) (h:Blk w g t cs) (hu:P.underlying ty=some d) (hd:(match d with | .struct _ | .array _ _=>true | _=>false)=true) (hi:(P.info? ty).map (·.size)=some cs.length) :
  (loadVar ty ⟨g,0,none⟩).run P w=.ok (.agg cs.toArray) w:=run_loadVar_row w g t ty cs.toArray (0,0) d h hu hd (by simpa using hi)
theorem blk_setRow {w:World} {g t:Nat} {cs:List Value} (vs:List Value) (h:Blk w g t cs):Blk (w.setRow g vs.toArray) g t vs:=setRow_heap w g _ _ t _ h

section
variable {P : Program} {ops : Array Oper} {rest : List Oper} {o : Oper} {a : Act} {w : World} {Q : Exit → Act → World → Prop}
theorem wpList_load_blk (hgd:o.guard=none) (ty:TypeId) (x:Operand) (ho:o.op=.load ty x) (g:Nat) (hx:a.eval x=.pointer (some ⟨g,0,none⟩)) {t:Nat} {cs:List Value} (hB:Blk w g t cs) (d:TypeDesc)
  (hu:P.underlying ty=some d) (hd:(match d with | .struct _ | .array _ _=>true | _=>false)=true) (hi:(P.info? ty).map (·.size)=some cs.length)
  (h:wpList P ops Q rest (a.put o.dst (.agg cs.toArray)) w):wpList P ops Q (o::rest) a w:=
 wpList_load_row hgd ty x ho g hx t cs.toArray (0,0) d hB hu hd (by simpa using hi) h
theorem wpList_store_blk (hgd:o.guard=none) (ty:TypeId) (x y:Operand) (ho:o.op=.store ty x y) (g:Nat) (vs:List Value) (hx:a.eval x=.pointer (some ⟨g,0,none⟩)) (hy:a.eval y=.agg vs.toArray) {t:Nat} {cs:List Value} (hB:Blk w g t cs)
  (hi:(P.info? ty).map (·.size)=some vs.length) (hl:cs.length=vs.length) (h1:vs.all (·.oneCell')=true)
  (h:∀ w',Hid (Blk w' g t vs)→w.grownBy w' (some g)→wpList P ops Q rest (a.put o.dst undef) w'):wpList P ops Q (o::rest) a w:=
 wpList_store_row hgd ty x y ho g vs.toArray hx hy t cs.toArray hB (by simpa using hi) (by simpa using hl) (by simpa using h1) (h _ (blk_setRow vs hB) (grown_setRow _ _ _))
end

section
variable {P : Program} {fn : Func} {p q r : Tmp} {ty : TypeId}
theorem results_blk2 (h:fn.results=#[.cell p ty,.tmp q]) (tmps:Array Value) (w:World) (g t:Nat) (cs:List Value) (d:TypeDesc) (hp:tmps.getD p undef=.pointer (some ⟨g,0,none⟩)) (hB:Blk w g t cs)
  (hu:P.underlying ty=some d) (hd:(match d with | .struct _ | .array _ _=>true | _=>false)=true) (hi:(P.info? ty).map (·.size)=some cs.length) :
  (results fn tmps).run P w=.ok (.tuple #[.agg cs.toArray,tmps.getD q undef]) w:=by
 have hp':tmps[p]?.getD undef=.pointer (some ⟨g,0,none⟩):=by simpa using hp
 simp [results,h,hp',asAddr,load_blk ty d hB hu hd hi]
end

set_option linter.unusedVariables false
set_option linter.unusedSimpArgs false

def Mid9 (B T:Nat) (w w':World):Prop:=Below B w w'∧∀ j,T≤j→j<w.heap.size→w'.heap[j]?=w.heap[j]?
theorem Mid9.refl (B T:Nat) (w:World):Mid9 B T w w:=⟨Below.refl _ _,fun _ _ _=>rfl⟩
theorem Mid9.step {B T:Nat} {w wr w1:World} {u:Value} (h:Mid9 B T w wr) (hg:wr.grownBy w1 u.ownBlock) (hsz:B≤wr.heap.size) (hlow:∀ x,u.ownBlock=some x→B≤x) (htop:∀ x,u.ownBlock=some x→x<T):Mid9 B T w w1:=
 ⟨h.1.grown hg hsz hlow,fun j hj hl=>by
  rw [hg.block j (Nat.lt_of_lt_of_le hl h.1.size) (fun e=>absurd (htop j e.symm) (by omega))]
  exact h.2 j hj hl⟩
theorem Mid9.after {B T:Nat} {w w0 w1:World} (h:Mid9 B T w0 w1) (hb:Below w.heap.size w w0) (hB:B≤w.heap.size):Mid9 B T w w1:=
 ⟨(hb.mono hB).trans h.1,fun j hj hl=>(h.2 j hj (Nat.lt_of_lt_of_le hl hb.size)).trans (hb.block j hl)⟩
theorem Mid9.blk {B T g t:Nat} {w w':World} {cs:List Value} (h:Mid9 B T w w') (hB:Blk w g t cs) (hg:T≤g):Blk w' g t cs:=(h.2 g hg hB.lt).trans hB
theorem Mid9.owns {B T B' e s n:Nat} {w w':World} {v:Value} {xs:List Value} (h:Mid9 B T w w') (ho:w.ownsRow B' e s v n xs) (hB:T≤B'):w'.ownsRow B' e s v n xs:=by
 refine ⟨ho.1,?_⟩
 rcases ho.2 with h0 | ⟨g,cap,cur,hv,hBg,hg,rest⟩
 ·exact .inl h0
 ·exact .inr ⟨g,cap,cur,hv,hBg,(h.2 g (by omega) (Array.getElem?_eq_some_iff.1 hg).1).trans hg,rest⟩


def OwnL9 (w:World) (B:Nat) (v:Value) (z:List Int):Prop:=w.ownsRow B 3 1 v z.length (z.map (Value.int .i64))
def HeldL9 (w:World) (B:Nat) (v:Value) (z:List Int):Prop:=w.ownsRow B 3 1 v z.length ((mkTo 1 z z.length).map (Value.int .i64))
theorem OwnL9.below {w w':World} {B:Nat} {v:Value} {z:List Int} (h:OwnL9 w B v z) (hb:Below w.heap.size w w'):OwnL9 w' B v z:=owns8 h hb
theorem HeldL9.below {w w':World} {B:Nat} {v:Value} {z:List Int} (h:HeldL9 w B v z) (hb:Below w.heap.size w w'):HeldL9 w' B v z:=owns8 h hb
theorem OwnL9.under {w w':World} {B T:Nat} {v:Value} {z:List Int} (h:OwnL9 w B v z) (hT:∀ x,v.ownBlock=some x→x<T) (hb:Below T w w'):OwnL9 w' B v z:=by
 refine ⟨h.1,?_⟩
 rcases h.2 with h0 | ⟨g,cap,cur,hv,hBg,hg,rest⟩
 ·exact .inl h0
 ·exact .inr ⟨g,cap,cur,hv,hBg,(hb.block g (hT g (by rw [hv];rfl))).trans hg,rest⟩
end Go.Proofs.YthmgampabhbpoaaDoor
