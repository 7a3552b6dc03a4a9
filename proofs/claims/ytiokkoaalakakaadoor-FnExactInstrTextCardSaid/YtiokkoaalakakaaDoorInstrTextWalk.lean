/-
  FnExactInstrText: both write the same text, the program's table being as its text lays it: the law's walk, and what the condition on the table gives.
-/
import Derived.Test.YtiokkoaalakakaaDoorTextI
import Derived.Test.YtiokkoaalakakaaDoorWords0
import Derived.Test.YtiokkoaalakakaaDoorRows
import Derived.ProofKit
import Derived.LaidMore
import Derived.MakeChecks
import Derived.Stop.LaidErr
namespace Go.Proofs.YtiokkoaalakakaaDoor
open Go.RowKit

set_option maxHeartbeats 1000000 in
set_option maxRecDepth 100000 in
theorem fnExactInstrText_walk (y : I3) (w : World) (_hy : y.fits) (hT : OpTable w) : Calls Tryd.prog 3 #[y.val] w fun e w' => e = .returned (.bool true) ∧ Below w.heap.size w w' := by
  obtain ⟨t, c, kS, kI⟩ := instrText_pair y
  have hne : (c != c) = false := by simp
  have hu : y.val = .agg #[.int .i64 y.1, .int .i64 y.2.1, .int .i64 y.2.2] := rfl
  rw [hu]
  go_enter Tryd.func3, Tryd.ntmps3
  go_wp2_with fail
  refine (toInstr_same y _).mono ?_
  rintro e w1 ⟨rfl, hb1⟩
  have b1 : Below w.heap.size w w1 := bel_trans (by go_grown) hb1
  have c0 : w1.cell? ⟨w.heap.size, 0, none⟩ = some (.int .i64 y.1) := by rw [hb1.cell (by simp)]; simp [go_sem]
  have c1 : w1.cell? ⟨w.heap.size, 1, none⟩ = some (.int .i64 y.2.1) := by rw [hb1.cell (by simp)]; simp [go_sem]
  have c2 : w1.cell? ⟨w.heap.size, 2, none⟩ = some (.int .i64 y.2.2) := by rw [hb1.cell (by simp)]; simp [go_sem]
  clear hb1
  go_wp2_with fail
  refine (kS _).mono ?_
  rintro e w2 ⟨rfl, hb2⟩
  have b2 := bel_trans b1 hb2
  replace c0 := cells_kept hb2 _ _ c0
  replace c1 := cells_kept hb2 _ _ c1
  replace c2 := cells_kept hb2 _ _ c2
  clear hb2 b1 kS
  go_wp2_with fail
  refine (toInstr_same y _).mono ?_
  rintro e w3 ⟨rfl, hb3⟩
  have b3 := bel_trans b2 hb3
  have hT3 := hT.below b3
  clear hb3 b2 c0 c1 c2 hT
  go_wp2_with fail
  refine (kI _ hT3).mono ?_
  rintro e w4 ⟨rfl, hb4⟩
  have b4 := bel_trans b3 hb4
  clear hb4 b3 kI hT3
  go_wp2
  go_ret
  exact ⟨rfl, b4⟩

theorem gOpWords : Tryd.prog.globalNamed "loop.example/g00632/impl.opWords" = some 0 := by kernel_rfl
theorem tOpWords : (Tryd.prog.globals[0]?).map (·.type) = some 84 := by kernel_rfl

/-- What the condition on the table gives the walks. -/
theorem opTable_of_met {W : World} (h : laidMet Tryd.prog [("loop.example/g00632/impl.opWords", Rows.laid_loop_example_g00632_impl_opWords)] W) : OpTable W := by
  obtain ⟨ps, ⟨g0, t0, cs0, f0, p0, q0, hg0, ht0, hv0, hd0, _, _⟩, _, _⟩ := h
  obtain rfl := Option.some.inj (gOpWords.symm.trans hg0)
  obtain rfl := Option.some.inj (tOpWords.symm.trans ht0)
  have hcs : cs0.toList = opCells := cells_of_strs (zs := opWL) Tryd.underlying84 Tryd.underlying9 (by kernel_rfl) (by kernel_rfl) hd0
  have hcs' : cs0 = opCells.toArray := by rw [← hcs]
  rw [hcs'] at hv0
  unfold World.var? at hv0
  simp only [gOpWords, Option.bind_some] at hv0
  cases hh : W.heap[0]? with
  | none => rw [hh] at hv0; cases hv0
  | some o =>
    rw [hh] at hv0
    cases o with
    | cells cs t fr => simp only [Option.some.injEq] at hv0; subst hv0; exact ⟨t, fr, hh⟩
    | _ => cases hv0

theorem fnExactInstrText_laid {W : World} (h : laidMetH Tryd.prog Rows.fnExactInstrTextRow.laid W) : OpTable W := by
  rw [MakeChecks.laidMetH_plain _ _ _ (by kernel_rfl)] at h
  exact opTable_of_met h.tail.tail.tail
theorem fnExactInstrText_door_met (os : Os) (args : Array Value) : laidMetH Tryd.prog Rows.fnExactInstrTextRow.laid ((World.doorLaid Tryd.prog 400 os).forCall (fun _ _ => 0) ⟨#[], args, []⟩).memory :=
  laidMetH_of_parts3 (fuel := 8) (laidMet_of_run' 8 (by kernel_rfl) (by kernel_rfl)) (by kernel_rfl) (by kernel_rfl)
end Go.Proofs.YtiokkoaalakakaaDoor
