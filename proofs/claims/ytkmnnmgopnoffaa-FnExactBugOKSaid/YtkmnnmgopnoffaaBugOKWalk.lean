
/-
  FnExactBugOK: both tell the same bugs right.
-/
import Derived.Test.YtkmnnmgopnoffaaBug0
import Derived.Test.YtkmnnmgopnoffaaProg4
namespace Go.Proofs.Ytkmnnmgopnoffaa
open Go.RowKit

set_option maxHeartbeats 1000000 in
set_option maxRecDepth 100000 in
theorem fnExactBugOK_walk (y : I3) (w : World) (_hy : y.fits) : Calls Try.prog 3 #[y.val] w fun e w' => e = .returned (.bool true) ∧ Below w.heap.size w w' := by
  have hu : y.val = .agg #[.int .i64 y.1, .int .i64 y.2.1, .int .i64 y.2.2] := rfl
  rw [hu]
  go_enter Try.func3, Try.ntmps3
  go_wp2_with fail
  refine (toBug_same y _).mono ?_
  rintro e w1 ⟨rfl, hb1⟩
  have b1 : Below w.heap.size w w1 := bel_trans (by go_grown) hb1
  have c0 : w1.cell? ⟨w.heap.size, 0, none⟩ = some (.int .i64 y.1) := by rw [hb1.cell (by simp)]; simp [go_sem]
  have c1 : w1.cell? ⟨w.heap.size, 1, none⟩ = some (.int .i64 y.2.1) := by rw [hb1.cell (by simp)]; simp [go_sem]
  have c2 : w1.cell? ⟨w.heap.size, 2, none⟩ = some (.int .i64 y.2.2) := by rw [hb1.cell (by simp)]; simp [go_sem]
  clear hb1
  go_wp2_with fail
  refine (specBugOK_is y _).mono ?_
  rintro e w2 ⟨rfl, hb2⟩
  have b2 := bel_trans b1 hb2
  replace c0 := cells_kept hb2 _ _ c0
  replace c1 := cells_kept hb2 _ _ c1
  replace c2 := cells_kept hb2 _ _ c2
  clear hb2 b1
  have k3 := implBugOK_is y
  generalize okB y = p at k3
  have hne : (p != p) = false := by simp
  go_wp2_with fail
  refine (toBug_same y _).mono ?_
  rintro e w3 ⟨rfl, hb3⟩
  have b3 := bel_trans b2 hb3
  clear hb3 b2 c0 c1 c2
  go_wp2_with fail
  refine (k3 _).mono ?_
  rintro e w4 ⟨rfl, hb4⟩
  have b4 := bel_trans b3 hb4
  clear hb4 b3 k3
  go_wp2
  go_ret
  exact ⟨rfl, b4⟩
end Go.Proofs.Ytkmnnmgopnoffaa
