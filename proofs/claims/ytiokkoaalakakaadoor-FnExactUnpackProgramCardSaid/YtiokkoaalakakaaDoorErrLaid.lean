/-
  What the condition on errors.errorType gives a walk.
-/
import Derived.Test.YtiokkoaalakakaaDoorAs2
import Derived.Test.YtiokkoaalakakaaDoorRows
import Derived.ProofKit
import Derived.LaidMore
import Derived.LaidHandle
import Derived.MakeChecks
namespace Go.Proofs.YtiokkoaalakakaaDoor
open Go.RowKit

theorem et_global : Tryd.prog.globalNamed "errors.errorType" = some 1 := by kernel_rfl
theorem et_rt : (Tryd.prog.cutTypes.find? (·.1 == "internal/reflectlite.rtype")).map (·.2) = some 144 := by kernel_rfl
theorem et_size : Tryd.prog.types.size = 195 := by kernel_rfl
theorem et_oneRow : ((List.range 195).filter fun t => Tryd.prog.rowNamed t [101, 114, 114, 111, 114]) = [100] := by kernel_rfl
theorem et_handle : typeHandle Tryd.prog 100 = .pointer (some ⟨5, 100, none⟩) := by kernel_rfl

/-- What the condition on errors.errorType gives a walk: the variable's one cell. -/
theorem errType_of_laid {W : World} {l : List (String × DataW Unit)} (hl : l = [("errors.errorType", Rows.laid_errors_errorType)]) (h : laidMetH Tryd.prog l W) : ErrType W := by
  subst hl
  have h' : laidMet Tryd.prog [] W ∧ handlesMet Tryd.prog [("errors.errorType", Rows.laid_errors_errorType)] W := h
  obtain ⟨name, u, ty, e1, e2, e3, e4, e5⟩ := h'.2 _ (List.mem_singleton.2 rfl)
  have en : name = [101, 114, 114, 111, 114] := (Option.some.inj e1).symm
  subst en
  obtain rfl := Option.some.inj (et_rt.symm.trans e2)
  have hm : ty ∈ (List.range 195).filter fun t => Tryd.prog.rowNamed t [101, 114, 114, 111, 114] := List.mem_filter.2 ⟨List.mem_range.2 (by rw [← et_size]; exact e3), e4⟩
  rw [et_oneRow] at hm
  obtain rfl := List.mem_singleton.1 hm
  rw [et_handle] at e5
  unfold ErrType
  simpa using World.var?_cell et_global e5 0

end Go.Proofs.YtiokkoaalakakaaDoor
