/-
  Joined: MemI.
-/
import Derived.Laws.AppendOwnNone
import Derived.Lib.Strings
import Derived.Lib.Walk
import Derived.Lib.BufferWrite
import Derived.Lib.UnsafeStr
import Derived.Laws.MakeOwn
import Derived.Test.YthmgampabhbpoaaDoorC29

namespace Go.Proofs.YthmgampabhbpoaaDoor
set_option maxRecDepth 100000
set_option maxHeartbeats 16000000
open Go.RowKit
set_option linter.unusedVariables false
set_option linter.unusedSimpArgs false

theorem news_new9 (w:World) (cs:List Value) (t:TypeId):∀ ad,some (⟨w.heap.size,0,none⟩:Addr)=some ad→∀ j u,cs[j]?=some u→(w.alloc (.cells cs.toArray t)).cell? (ad.add j)=some u:=by
 intro ad ha j u hj
 cases ha
 have e:(⟨w.heap.size,0,none⟩:Addr).add j=⟨w.heap.size,0+j,none⟩:=by unfold Addr.add;split<;>simp_all
 rw [e,Nat.zero_add]
 have p:Blk (w.alloc (.cells cs.toArray t)) w.heap.size t cs:=blkAt _ _ _ rfl
 rw [p.cell j]
 exact hj
theorem take_snoc9 {es:List E3} {k:Nat} (h:k<es.length):es.take k++[es.getD k e3d]=es.take (k+1):=by
 rw [List.take_add_one,List.getElem?_eq_getElem h,getD9 h]
 rfl
end Go.Proofs.YthmgampabhbpoaaDoor
