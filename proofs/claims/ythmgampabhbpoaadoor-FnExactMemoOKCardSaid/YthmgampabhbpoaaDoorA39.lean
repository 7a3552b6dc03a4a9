/-
  Joined: Ent9.
-/
import Derived.Laws.AppendOwnNone
import Derived.Test.YthmgampabhbpoaaDoorA36
import Derived.Test.YthmgampabhbpoaaDoorA37

namespace Go.Proofs.YthmgampabhbpoaaDoor
set_option maxRecDepth 100000
set_option maxHeartbeats 16000000
open Go.RowKit
set_option linter.unusedVariables false
set_option linter.unusedSimpArgs false

abbrev EQ:=E3 × Sl2
def entL (L:List EQ):List Value:=L.flatMap fun x=>entC x.1.1 x.2
def EntQ (w:World) (a:Option Addr) (n c:Nat) (L:List EQ):Prop:=
 L.length=n∧n≤c∧c≤maxLen∧(∀ x ∈ L,Emem w x.2 x.1)∧(n=0∨∃ b off,a=some ⟨b,off,none⟩∧b<w.heap.size∧∀ j u,(entL L)[j]?=some u→w.cell? ⟨b,off+j,none⟩=some u)
theorem EntQ.below {w w':World} {a:Option Addr} {n c:Nat} {L:List EQ} (h:EntQ w a n c L) (hb:Below w.heap.size w w'):EntQ w' a n c L:=by
 obtain ⟨h1,h2,h3,h4,h5⟩:=h
 refine ⟨h1,h2,h3,fun x hx=>(h4 x hx).below hb,?_⟩
 rcases h5 with h0 | ⟨b,off,ha,hlt,hc⟩
 ·exact .inl h0
 ·exact .inr ⟨b,off,ha,by have:=hb.size;omega,fun j u hj=>by rw [hb.cell (p:=⟨b,_,none⟩) hlt];exact hc j u hj⟩
end Go.Proofs.YthmgampabhbpoaaDoor
