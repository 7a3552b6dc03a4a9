/-
  Joined: MgiJ, MgiW.
-/
import Derived.Test.YthmgampabhbpoaaGreatDoorK33
import Derived.Test.YthmgampabhbpoaaGreatDoorK36

namespace Go.Proofs.YthmgampabhbpoaaGreatDoor
set_option maxRecDepth 100000
set_option maxHeartbeats 16000000
open Go.RowKit
set_option linter.unusedVariables false
set_option linter.unusedSimpArgs false

theorem rows_one (w:World) {a:Option Addr} {n c:Nat} {xs:List Int} (h:Ints .i64 w a n c xs):RowsI (w.alloc (.cells #[.slice a n c] 27)) (some ⟨w.heap.size,0,none⟩) 1 1 [xs]:=by
 have b1:Below w.heap.size w (w.alloc (.cells #[.slice a n c] 27)):=by go_grown
 refine ⟨rfl,Nat.le_refl _,by unfold maxLen;omega,[.slice a n c],(AllL.nil _).snoc ⟨_,_,_,rfl,h.below b1⟩,.inr ⟨_,_,rfl,by simp,fun t ht=>?_⟩⟩
 match t,ht with
 | 0,_=>simp [go_sem]


theorem isRow_wfs {w:World} {a:Option Addr} {n c:Nat} {zs:List Int} (h:IsRow .i64 w a n c zs):wfs (zs.take n):=by
 rcases h with ⟨rfl,rfl,rfl,rfl⟩ | ⟨x,_,_,_,_,_,h⟩
 ·intro x hx
  simp at hx
 ·exact fun x hx=>h x (List.mem_of_mem_take hx)
end Go.Proofs.YthmgampabhbpoaaGreatDoor
