/-
  FnProgram, part 32 of 50 (ErrLaid, Words0, OpLaid).
-/
import Derived.Test.YtiokkoaalakakaaGreatDoorJ23
import Derived.Test.YtiokkoaalakakaaGreatDoorRows
import Derived.ProofKit
import Derived.LaidMore
import Derived.LaidHandle
import Derived.MakeChecks
import Derived.Test.YtiokkoaalakakaaGreatDoorProg
import Derived.WalkKit
import Derived.WalkSpells
import Derived.WalkLawsBesides
import Derived.LaidLaws
import Derived.ChangeArms
import Derived.Lib.LaidTab
import Derived.Test.YtiokkoaalakakaaGreatDoorJ08
import Derived.Stop.LaidErr
/-
  What the condition on errors.errorType gives a walk.
-/
namespace Go.Proofs.YtiokkoaalakakaaGreatDoor
open Go.RowKit

theorem et_global : Tryz.prog.globalNamed "errors.errorType" = some 1 := by kernel_rfl
theorem et_rt : (Tryz.prog.cutTypes.find? (·.1 == "internal/reflectlite.rtype")).map (·.2) = some 132 := by kernel_rfl
theorem et_size : Tryz.prog.types.size = 182 := by kernel_rfl
theorem et_oneRow : ((List.range 182).filter fun t => Tryz.prog.rowNamed t [101, 114, 114, 111, 114]) = [86] := by kernel_rfl
theorem et_handle : typeHandle Tryz.prog 86 = .pointer (some ⟨5, 86, none⟩) := by kernel_rfl

/-- What the condition on errors.errorType gives a walk: the variable's one cell. -/
theorem errType_of_laid {W : World} {l : List (String × DataW Unit)} (hl : l = [("errors.errorType", Rows.laid_errors_errorType)]) (h : laidMetH Tryz.prog l W) : ErrType W := by
  subst hl
  have h' : laidMet Tryz.prog [] W ∧ handlesMet Tryz.prog [("errors.errorType", Rows.laid_errors_errorType)] W := h
  obtain ⟨name, u, ty, e1, e2, e3, e4, e5⟩ := h'.2 _ (List.mem_singleton.2 rfl)
  have en : name = [101, 114, 114, 111, 114] := (Option.some.inj e1).symm
  subst en
  obtain rfl := Option.some.inj (et_rt.symm.trans e2)
  have hm : ty ∈ (List.range 182).filter fun t => Tryz.prog.rowNamed t [101, 114, 114, 111, 114] := List.mem_filter.2 ⟨List.mem_range.2 (by rw [← et_size]; exact e3), e4⟩
  rw [et_oneRow] at hm
  obtain rfl := List.mem_singleton.1 hm
  rw [et_handle] at e5
  unfold ErrType
  simpa using World.var?_cell et_global e5 0

end Go.Proofs.YtiokkoaalakakaaGreatDoor

/-
  A laid array of texts, cell for cell.
-/
namespace Go.Proofs.YtiokkoaalakakaaGreatDoor
open Go.RowKit

/-- AN ARRAY OF TEXTS THAT READS AS THE TABLE HOLDS THE TABLE's TEXTS, CELL FOR CELL. -/
theorem cells_of_strs {H : Type} {enc : TypeId × Value → H} {P : Program} {w : World} {base : Nat} {sp : Nat → Bool} {held : Bool} {fuel : Nat} {t e : TypeId} {n : Nat} {cs : List Value} {zs : List (List UInt8)} {p : List MemPlace}
    (ht : P.underlying t = some (.array n e)) (he : P.underlying e = some .string) (hce : P.cellsOf e = 1) (hct : P.cellsOf t = n)
    (h : DataW.trod enc P w base sp held fuel t cs = some (.agg (zs.map fun z => .lit (.string z)), p)) : cs = zs.map fun z => Value.string ⟨z.toArray⟩ := by
  cases fuel with
  | zero => simp [DataW.trod] at h
  | succ fuel =>
    simp only [DataW.trod, ht, hce, hct, Nat.mul_one] at h
    split at h
    · rename_i hl
      obtain ⟨xs, hm, hx⟩ := Option.map_eq_some_iff.1 h
      have hxs : xs.map (·.1) = zs.map fun z => (DataW.lit (.string z) : DataW H) := by
        have := congrArg Prod.fst hx
        simpa using this
      have hxl : xs.length = n := by simpa using Lib.mapM_length hm
      have hzl : zs.length = n := by
        have := congrArg List.length hxs
        simp at this
        omega
      apply List.ext_getElem?
      intro i
      by_cases hi : i < n
      · obtain ⟨b, hb, hf⟩ := Lib.mapM_at hm i i (by simp [hi])
        obtain ⟨s, hc, rfl, _⟩ := DataW.trod_string he hf
        have h1 : cs[i]? = some (.string s) := by
          have := congrArg (·[0]?) hc
          simpa [List.getElem?_take, List.getElem?_drop] using this
        have h2 : (xs.map (·.1))[i]? = some (DataW.lit (.string s.data.toList) : DataW H) := by simp [hb]
        rw [hxs] at h2
        simp only [List.getElem?_map, Option.map_eq_some_iff, DataW.lit.injEq, Lit.string.injEq] at h2
        obtain ⟨z', hz', hz2⟩ := h2
        have hs : s = ⟨z'.toArray⟩ := by
          apply ByteArray.ext
          simp [hz2]
        simp [h1, hz', hs]
      · rw [List.getElem?_eq_none (by omega), List.getElem?_eq_none (by simp; omega)]
    · cases h
end Go.Proofs.YtiokkoaalakakaaGreatDoor


/-
  What the condition on the table of words gives the walks.
-/
namespace Go.Proofs.YtiokkoaalakakaaGreatDoor
open Go.RowKit

theorem gOpWords : Tryz.prog.globalNamed "loop.example/g00632/impl.opWords" = some 0 := by kernel_rfl
theorem tOpWords : (Tryz.prog.globals[0]?).map (·.type) = some 91 := by kernel_rfl

/-- What the condition on the table gives the walks. -/
theorem opTable_of_met {W : World} (h : laidMet Tryz.prog [("loop.example/g00632/impl.opWords", Rows.laid_loop_example_g00632_impl_opWords)] W) : OpTable W := by
  obtain ⟨ps, ⟨g0, t0, cs0, f0, p0, q0, hg0, ht0, hv0, hd0, _, _⟩, _, _⟩ := h
  obtain rfl := Option.some.inj (gOpWords.symm.trans hg0)
  obtain rfl := Option.some.inj (tOpWords.symm.trans ht0)
  have hcs : cs0.toList = opCells := cells_of_strs (zs := opWL) Tryz.underlying91 Tryz.underlying9 (by kernel_rfl) (by kernel_rfl) hd0
  have hcs' : cs0 = opCells.toArray := by rw [← hcs]
  rw [hcs'] at hv0
  unfold World.var? at hv0
  simp only [gOpWords, Option.bind_some] at hv0
  cases hh : W.heap[0]? with
  | none => rw [hh] at hv0; cases hv0
  | some o =>
    rw [hh] at hv0
    cases o with
    | cells cs t fr => simp only [Option.some.injEq] at hv0; subst hv0; exact ⟨t, fr, hh⟩
    | _ => cases hv0

end Go.Proofs.YtiokkoaalakakaaGreatDoor
