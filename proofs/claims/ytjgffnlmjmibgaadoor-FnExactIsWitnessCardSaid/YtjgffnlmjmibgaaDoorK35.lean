/-
  Joined: StepPl.
-/
import Derived.BigRegion
import Derived.Maps.AppendAt
import Derived.Test.YtjgffnlmjmibgaaDoorK12

namespace Go.Proofs.YtjgffnlmjmibgaaDoor
set_option maxRecDepth 100000
set_option maxHeartbeats 16000000
open Go.RowKit
set_option linter.unusedVariables false

theorem mem_enab {rows:List (List I3)} {m:V4} {k:Nat}:∀ n,((k:Int) ∈ enabM rows m n)↔k<n∧canM rows m k=true
 | 0=>by simp [enabM]
 | n+1=>by
  have ih:=mem_enab (rows:=rows) (m:=m) (k:=k) n
  unfold enabM
  split
  ·rename_i h
   simp only [List.mem_append,List.mem_singleton,ih]
   constructor
   ·rintro (⟨h1,h2⟩ | h1)
    ·exact ⟨by omega,h2⟩
    ·obtain rfl:k=n:=by omega
     exact ⟨by omega,h⟩
   ·rintro ⟨h1,h2⟩
    by_cases e:k=n
    ·exact .inr (by omega)
    ·exact .inl ⟨by omega,h2⟩
  ·rename_i h
   rw [ih]
   constructor
   ·rintro ⟨h1,h2⟩
    exact ⟨by omega,h2⟩
   ·rintro ⟨h1,h2⟩
    refine ⟨?_,h2⟩
    by_cases e:k=n
    ·subst e
     exact absurd h2 h
    ·omega
end Go.Proofs.YtjgffnlmjmibgaaDoor
