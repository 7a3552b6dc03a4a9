
/-
  FnExactItemOf, FnExactItemAt: the laws' walks.
-/
import Derived.Test.YtojcgajjnmjjpaaItmI
namespace Go.Proofs.Ytojcgajjnmjjpaa
open Go.RowKit
set_option linter.unusedVariables false

set_option maxHeartbeats 1000000 in
theorem fnExactItemOf_walk (a0 : Int) (_w0 : (Lit.int .i64 a0).wf = true) (a1 : Int) (_w1 : (Lit.int .i64 a1).wf = true) (w : World) :
    Calls Try.prog 4 #[.int .i64 a0, .int .i64 a1] w fun e w' => e = .returned (.bool true) ∧ Below w.heap.size w w' := by
  have kS := specItemOf_is a0 a1
  have kI := implItemOf_is a0 a1
  obtain ⟨x, c, hx⟩ : ∃ x c : Int, itemV a0 a1 = .tuple #[.int .i64 x, .int .i64 c] := by
    unfold itemV; split <;> exact ⟨_, _, rfl⟩
  rw [hx] at kS kI
  clear hx
  have q1 : (x != x) = false := by simp
  have q2 : (c != c) = false := by simp
  go_enter Try.func4, Try.ntmps4
  go_wp2_with fail
  refine (kS _).mono ?_
  rintro e w1 ⟨rfl, rfl⟩
  go_wp2_with fail
  refine (kI _).mono ?_
  rintro e w1 ⟨rfl, rfl⟩
  go_wp2
  go_ret
  exact ⟨rfl, Below.refl _ _⟩

set_option maxHeartbeats 1000000 in
theorem fnExactItemAt_walk (a0 : Int) (w0 : (Lit.int .i64 a0).wf = true) (w : World) :
    Calls Try.prog 5 #[.int .i64 a0] w fun e w' => e = .returned (.bool true) ∧ Below w.heap.size w w' := by
  have kS := specItemAt_is a0 (in_wf8 w0)
  have kI := implItemAt_is a0 (in_wf8 w0)
  obtain ⟨x, y, c, hx⟩ : ∃ x y c : Int, atV a0 = .tuple #[.int .i64 x, .int .i64 y, .int .i64 c] := by
    unfold atV; split <;> exact ⟨_, _, _, rfl⟩
  rw [hx] at kS kI
  clear hx
  have q1 : (x != x) = false := by simp
  have q2 : (c != c) = false := by simp
  have q3 : (y != y) = false := by simp
  go_enter Try.func5, Try.ntmps5
  go_wp2_with fail
  refine (kS _).mono ?_
  rintro e w1 ⟨rfl, rfl⟩
  go_wp2_with fail
  refine (kI _).mono ?_
  rintro e w1 ⟨rfl, rfl⟩
  go_wp2
  go_ret
  exact ⟨rfl, Below.refl _ _⟩
end Go.Proofs.Ytojcgajjnmjjpaa
