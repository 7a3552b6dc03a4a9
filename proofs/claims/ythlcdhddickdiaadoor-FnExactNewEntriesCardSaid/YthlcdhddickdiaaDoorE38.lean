/-
  Joined: TchI, KpsI.
-/
import Derived.Lib.Strings
import Derived.Lib.Walk
import Derived.Lib.BufferWrite
import Derived.Lib.UnsafeStr
import Derived.Laws.MakeOwn
import Derived.Shelf.SlSortCmp.Insertion
import Derived.Shelf.Small.Strs
import Derived.Deep.Cut
import Derived.Test.YthlcdhddickdiaaDoorE19
import Derived.Test.YthlcdhddickdiaaDoorE27

namespace Go.Proofs.YthlcdhddickdiaaDoor
set_option maxRecDepth 100000
set_option maxHeartbeats 16000000
open Go.RowKit
set_option linter.unusedVariables false
set_option linter.unusedSimpArgs false

def tchB (xs ys:List Int):Bool:=xs.any (fun x=>decide (x ∈ ys))


def EntO (w0 w:World) (B:Nat) (v:Value) (es:List E3):Prop:=∃ L:List EQ,L.map (·.1)=es∧w.ownsRow B 39 3 v L.length (entL L)∧∀ x ∈ L,Emem w0 x.2 x.1
theorem EntO.below {w0 w w':World} {B:Nat} {v:Value} {es:List E3} (h:EntO w0 w B v es) (hb:Below w.heap.size w w'):EntO w0 w' B v es:=by
 obtain ⟨L,h1,h2,h3⟩:=h
 exact ⟨L,h1,owns8 h2 hb,h3⟩
theorem EntO.ents {w0 w:World} {B:Nat} {a:Option Addr} {n c:Nat} {es:List E3} (h:EntO w0 w B (.slice a n c) es) (hb:Below w0.heap.size w0 w):Ents w a n c es:=by
 obtain ⟨L,rfl,h2,h3⟩:=h
 obtain ⟨a',c',e⟩:=slice8 h2
 injection e with e1 e2 e3
 subst e1 e2 e3
 exact (EntQ.of_owns h2 (fun x hx=>(h3 x hx).below hb)).ents
theorem EntO.low {w0 w:World} {B:Nat} {v:Value} {es:List E3} (h:EntO w0 w B v es) {p:Addr} (hp:p.block<B) (u:Value):EntO w0 (w.setCell p u) B v es:=by
 obtain ⟨L,h1,h2,h3⟩:=h
 exact ⟨L,h1,ownsRow_setCell_below h2 hp u,h3⟩
theorem entL_snoc (L:List EQ) (x:EQ):entL (L++[x])=entL L++entC x.1.1 x.2:=by
 rw [entL_append]
 simp [entL]
def EntsGot (x:Ending) (w':World) (es:List E3):Prop:=∃ a n c,x=.returned (.agg #[.slice a n c])∧Ents w' a n c es
def MemGotC (x:Ending) (w':World) (B:Nat) (es:List E3) (c:Int):Prop:=∃ v,x=.returned (.tuple #[.agg #[v],.int .i64 c])∧OwnM w' B v es
theorem MemGotC.mk9 {w':World} {B:Nat} {v:Value} {es:List E3} {c:Int} (h:OwnM w' B v es):MemGotC (.returned (.tuple #[.agg #[v],.int .i64 c])) w' B es c:=⟨v,rfl,h⟩

end Go.Proofs.YthlcdhddickdiaaDoor
