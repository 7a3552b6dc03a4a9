/-
  Joined: MemI.
-/
import Derived.Test.YthmgampabhbpoaaDoorB21
import Derived.Test.YthmgampabhbpoaaDoorB46
import Derived.Test.YthmgampabhbpoaaDoorB47

namespace Go.Proofs.YthmgampabhbpoaaDoor
set_option maxRecDepth 100000
set_option maxHeartbeats 16000000
open Go.RowKit
set_option linter.unusedVariables false
set_option linter.unusedSimpArgs false

theorem EntGot.lower {x:Ending} {w':World} {B B':Nat} {e:E3} (h:EntGot x w' B e) (hB:B'≤B):EntGot x w' B' e:=by
 obtain ⟨s,h1,h2⟩:=h
 exact ⟨s,h1,h2.lower hB⟩
theorem news_new9 (w:World) (cs:List Value) (t:TypeId):∀ ad,some (⟨w.heap.size,0,none⟩:Addr)=some ad→∀ j u,cs[j]?=some u→(w.alloc (.cells cs.toArray t)).cell? (ad.add j)=some u:=by
 intro ad ha j u hj
 cases ha
 have e:(⟨w.heap.size,0,none⟩:Addr).add j=⟨w.heap.size,0+j,none⟩:=by unfold Addr.add;split<;>simp_all
 rw [e,Nat.zero_add]
 have p:Blk (w.alloc (.cells cs.toArray t)) w.heap.size t cs:=blkAt _ _ _ rfl
 rw [p.cell j]
 exact hj
end Go.Proofs.YthmgampabhbpoaaDoor
