
/-
  codeOK, impl.ProgramOK: which programs are right.
-/
import Derived.Test.YtkmnnmgopnoffaaLeads
import Derived.Test.YtkmnnmgopnoffaaProg4
import Derived.Test.YtkmnnmgopnoffaaProg3
namespace Go.Proofs.Ytkmnnmgopnoffaa
open Go.RowKit

/-- From its i-th instruction on a code of n instructions is right. -/
def okFrom (n : Nat) : Nat → List I3 → Bool
  | _, [] => true
  | i, x :: xs => (okI x && leads x i n) && okFrom n (i + 1) xs

/-- A thread's code is right. -/
def codeOk (xs : List I3) : Bool := decide (xs.length ≤ 6) && okFrom xs.length 0 xs

theorem okFrom_step {n k : Nat} {xs : List I3} (hk : k < xs.length) : okFrom n k (xs.drop k) = ((okI (xs.getD k (0, 0, 0)) && leads (xs.getD k (0, 0, 0)) k n) && okFrom n (k + 1) (xs.drop (k + 1))) := by
  rw [List.drop_eq_getElem_cons hk]
  show ((okI (xs[k]) && leads (xs[k]) k n) && okFrom n (k + 1) (xs.drop (k + 1))) = _
  simp [List.getD, hk]

/-- A program is right. -/
def progOk (rows : List (List I3)) : Bool := decide (rows.length = 3) && rows.all codeOk

theorem all_step {rows : List (List I3)} {k : Nat} (hk : k < rows.length) : (rows.drop k).all codeOk = (codeOk (rows.getD k []) && (rows.drop (k + 1)).all codeOk) := by
  rw [List.drop_eq_getElem_cons hk, List.all_cons]
  simp [List.getD, hk]

end Go.Proofs.Ytkmnnmgopnoffaa
