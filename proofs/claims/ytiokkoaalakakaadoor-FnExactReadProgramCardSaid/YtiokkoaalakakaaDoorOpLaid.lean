/-
  What the condition on the table of words gives the walks.
-/
import Derived.Test.YtiokkoaalakakaaDoorTextI
import Derived.Test.YtiokkoaalakakaaDoorWords0
import Derived.Test.YtiokkoaalakakaaDoorRows
import Derived.ProofKit
import Derived.LaidMore
import Derived.MakeChecks
import Derived.Stop.LaidErr
namespace Go.Proofs.YtiokkoaalakakaaDoor
open Go.RowKit

theorem gOpWords : Tryd.prog.globalNamed "loop.example/g00632/impl.opWords" = some 0 := by kernel_rfl
theorem tOpWords : (Tryd.prog.globals[0]?).map (·.type) = some 84 := by kernel_rfl

/-- What the condition on the table gives the walks. -/
theorem opTable_of_met {W : World} (h : laidMet Tryd.prog [("loop.example/g00632/impl.opWords", Rows.laid_loop_example_g00632_impl_opWords)] W) : OpTable W := by
  obtain ⟨ps, ⟨g0, t0, cs0, f0, p0, q0, hg0, ht0, hv0, hd0, _, _⟩, _, _⟩ := h
  obtain rfl := Option.some.inj (gOpWords.symm.trans hg0)
  obtain rfl := Option.some.inj (tOpWords.symm.trans ht0)
  have hcs : cs0.toList = opCells := cells_of_strs (zs := opWL) Tryd.underlying84 Tryd.underlying9 (by kernel_rfl) (by kernel_rfl) hd0
  have hcs' : cs0 = opCells.toArray := by rw [← hcs]
  rw [hcs'] at hv0
  unfold World.var? at hv0
  simp only [gOpWords, Option.bind_some] at hv0
  cases hh : W.heap[0]? with
  | none => rw [hh] at hv0; cases hv0
  | some o =>
    rw [hh] at hv0
    cases o with
    | cells cs t fr => simp only [Option.some.injEq] at hv0; subst hv0; exact ⟨t, fr, hh⟩
    | _ => cases hv0

end Go.Proofs.YtiokkoaalakakaaDoor
