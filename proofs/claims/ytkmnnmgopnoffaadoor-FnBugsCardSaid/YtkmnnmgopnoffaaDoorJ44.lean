/-
  FnBugs, part 44 of 50 (WordsLaid).
-/
import Derived.Test.YtkmnnmgopnoffaaDoorJ34
import Derived.Test.YtkmnnmgopnoffaaDoorJ33
import Derived.Test.YtkmnnmgopnoffaaDoorRows
import Derived.ProofKit
import Derived.OpenShut
import Derived.LaidMore
import Derived.MakeChecks
import Derived.Stop.LaidErr

/-
  What the condition on the table of codes' words gives the walks.
-/
namespace Go.Proofs.YtkmnnmgopnoffaaDoor
open Go.RowKit

theorem gWords : Tryd.prog.globalNamed "loop.example/g00632/impl.codeWords" = some 1 := by kernel_rfl
theorem tWords : (Tryd.prog.globals[1]?).map (·.type) = some 184 := by kernel_rfl

/-- What the condition on the table gives the walks. -/
theorem table_of_met {W : World} {rest : List (String × DataW Unit)} (h : laidMet Tryd.prog (("loop.example/g00632/impl.codeWords", Rows.laid_loop_example_g00632_impl_codeWords) :: rest) W) : Table W := by
  obtain ⟨ps, ⟨g0, t0, cs0, f0, p0, q0, hg0, ht0, hv0, hd0, _, _⟩, _, _⟩ := h
  obtain rfl := Option.some.inj (gWords.symm.trans hg0)
  obtain rfl := Option.some.inj (tWords.symm.trans ht0)
  have hcs : cs0.toList = wordCells := cells_of_strs (zs := wordsL) Tryd.underlying184 Tryd.underlying9 (by kernel_rfl) (by kernel_rfl) hd0
  have hcs' : cs0 = wordCells.toArray := by rw [← hcs]
  rw [hcs'] at hv0
  unfold World.var? at hv0
  simp only [gWords, Option.bind_some] at hv0
  cases hh : W.heap[1]? with
  | none => rw [hh] at hv0; cases hv0
  | some o =>
    rw [hh] at hv0
    cases o with
    | cells cs t fr => simp only [Option.some.injEq] at hv0; subst hv0; exact ⟨t, fr, hh⟩
    | _ => cases hv0

end Go.Proofs.YtkmnnmgopnoffaaDoor
