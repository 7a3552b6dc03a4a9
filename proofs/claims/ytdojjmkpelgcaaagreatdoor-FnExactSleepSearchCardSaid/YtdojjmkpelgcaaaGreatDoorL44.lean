/-
  Joined: CntI, RbgI.
-/
import Derived.Carry
import Derived.Deep.CutRange
import Derived.Test.YtdojjmkpelgcaaaGreatDoorL40
import Derived.Test.YtdojjmkpelgcaaaGreatDoorL41

namespace Go.Proofs.YtdojjmkpelgcaaaGreatDoor
set_option maxRecDepth 100000
open Go.RowKit
set_option linter.unusedVariables false
set_option linter.unusedSimpArgs false

def CtOk (rows : List (List I3)) (L : List (Rec6 V4 × Value)) (cts : List Int) : Prop := cts.length = L.length ∧ ∀ i r mv, L[i]? = some (r, mv) → cts.getD i 0 = 0 ∨ cts.getD i 0 = (cntM rows r.1 : Int)
theorem CtOk.put {rows : List (List I3)} {L : List (Rec6 V4 × Value)} {cts : List Int} (h : CtOk rows L cts) {at9 : Nat} {r : Rec6 V4} {mv : Value} (hr : L[at9]? = some (r, mv)) : CtOk rows L (cts.set at9 (cntM rows r.1 : Int)) := by
 have hl : at9 < L.length := (List.getElem?_eq_some_iff.1 hr).1
 refine ⟨by simp [h.1], fun i r' mv' hi => ?_⟩
 by_cases e : at9 = i
 ·subst e
  rw [hr] at hi
  cases hi
  right
  simp [List.getD, h.1, hl]
 ·have := h.2 i r' mv' hi
  simp only [List.getD, List.getElem?_set_ne e] at this ⊢
  exact this


theorem flat_snoc6 (xs : List I3) (x : I3) : flat (xs ++ [x]) = flat xs ++ [.int .i64 x.1, .int .i64 x.2.1, .int .i64 x.2.2] := by simp [flat, I3.cells]
theorem three_new6 {w : World} {g t : Nat} {a b c : Value} (h : Blk w g t [a, b, c]) : ∀ j u, [a, b, c][j]? = some u → w.cell? ((⟨g, 0, none⟩ : Addr).add j) = some u := cells_new h

end Go.Proofs.YtdojjmkpelgcaaaGreatDoor
