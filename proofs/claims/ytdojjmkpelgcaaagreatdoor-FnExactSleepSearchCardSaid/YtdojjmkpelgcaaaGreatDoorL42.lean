/-
  Joined: SpcO.
-/
import Derived.Carry
import Derived.Test.YtdojjmkpelgcaaaGreatDoorL40

namespace Go.Proofs.YtdojjmkpelgcaaaGreatDoor
set_option maxRecDepth 100000
open Go.RowKit
set_option linter.unusedVariables false
set_option linter.unusedSimpArgs false

structure OnSp (w wr : World) (X R nb : Nat) (vs : Value) (cs : Sl × Sl × Sl) (rows : List (List I3)) (L : List (Rec6 V4 × Value)) (at9 : Nat) : Prop where
 sp : SpcD wr w.heap.size nb vs cs (mvsOf rows (fullS rows)) L at9
 bx : Blk wr X 111 [vs, .map (some nb)]
 br : Blk wr R 111 [.slice none 0 0, .map none]
 sh : Shaped (L.map (·.1))
 rn : srch (nxM rows) (2000 - at9) at9 (L.map (·.1)) = fullS rows
 ln : L.length ≤ 1 + 3 * at9
 le : at9 ≤ L.length
 a2 : at9 ≤ 2000
 bl : Below w.heap.size w wr
theorem OnSp.pre {w wr : World} {X R nb : Nat} {vs : Value} {cs : Sl × Sl × Sl} {rows : List (List I3)} {L : List (Rec6 V4 × Value)} {at9 : Nat} {r : Rec6 V4} {mv : Value} (h : OnSp w wr X R nb vs cs rows L at9) (hr : L[at9]? = some (r, mv)) (ha : at9 < 2000) : onS at9 (L.map (·.1)) (nxM rows r.1) <+: fullS rows := by
 have hl : at9 < L.length := (List.getElem?_eq_some_iff.1 hr).1
 have hlm : at9 < (L.map (·.1)).length := by simpa using hl
 have hat : ((L.map (·.1))[at9]'hlm) = r := by
  have e := (List.getElem?_eq_some_iff.1 hr).2
  simp [e]
 have e := h.rn
 rw [show 2000 - at9 = (1999 - at9) + 1 by omega, srch_go hlm, hat] at e
 rw [← e]
 exact srch_pre _ _ _ _

end Go.Proofs.YtdojjmkpelgcaaaGreatDoor
