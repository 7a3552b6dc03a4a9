
/-
  Operands: what each kind of an instruction's number may be (impl's methods right), and how an operand's method is found.
-/
import Derived.Test.YtleiogcohkfgkaaProg1
namespace Go.Proofs.Ytleiogcohkfgkaa
open Go.RowKit

/-- A number from a to b. -/
def inB (n a b : Int) : Bool := decide (a ≤ n ∧ n ≤ b)

theorem inB_true {n a b : Int} : inB n a b = true ↔ a ≤ n ∧ n ≤ b := by simp [inB]
theorem inB_false {n a b : Int} : inB n a b = false ↔ ¬ (a ≤ n ∧ n ≤ b) := by simp only [inB, decide_eq_false_iff_not]


theorem meth_register (v : Value) (w : World) : (Go.method 221 100 v "loop.example/g00632/impl.right").run Try.prog w = .ok (76, v) w := by kernel_rfl

set_option maxHeartbeats 1000000 in
set_option maxRecDepth 100000 in
theorem right_register (n : Int) (w : World) : Calls Try.prog 76 #[.int .i64 n] w fun e w' => e = .returned (.bool (inB n 0 1)) ∧ w = w' := by
  cases h : inB n 0 1
  · rw [inB_false] at h
    by_cases h1 : 0 ≤ n
    · have h2 : decide (n < 2) = false := by simp; omega
      clear h
      go_enter Try.func76, Try.ntmps76
      go_wp2
      go_ret
      exact ⟨rfl, rfl⟩
    · clear h
      go_enter Try.func76, Try.ntmps76
      go_wp2
      go_ret
      exact ⟨rfl, rfl⟩
  · rw [inB_true] at h
    obtain ⟨h1, h3⟩ := h
    have h2 : decide (n < 2) = true := by simp; omega
    clear h3
    go_enter Try.func76, Try.ntmps76
    go_wp2
    go_ret
    exact ⟨by simp_all, rfl⟩


theorem meth_shared (v : Value) (w : World) : (Go.method 221 101 v "loop.example/g00632/impl.right").run Try.prog w = .ok (77, v) w := by kernel_rfl

set_option maxHeartbeats 1000000 in
set_option maxRecDepth 100000 in
theorem right_shared (n : Int) (w : World) : Calls Try.prog 77 #[.int .i64 n] w fun e w' => e = .returned (.bool (inB n 0 3)) ∧ w = w' := by
  cases h : inB n 0 3
  · rw [inB_false] at h
    by_cases h1 : 0 ≤ n
    · have h2 : decide (n < 4) = false := by simp; omega
      clear h
      go_enter Try.func77, Try.ntmps77
      go_wp2
      go_ret
      exact ⟨rfl, rfl⟩
    · clear h
      go_enter Try.func77, Try.ntmps77
      go_wp2
      go_ret
      exact ⟨rfl, rfl⟩
  · rw [inB_true] at h
    obtain ⟨h1, h3⟩ := h
    have h2 : decide (n < 4) = true := by simp; omega
    clear h3
    go_enter Try.func77, Try.ntmps77
    go_wp2
    go_ret
    exact ⟨by simp_all, rfl⟩


theorem meth_lock (v : Value) (w : World) : (Go.method 221 103 v "loop.example/g00632/impl.right").run Try.prog w = .ok (79, v) w := by kernel_rfl

set_option maxHeartbeats 1000000 in
set_option maxRecDepth 100000 in
theorem right_lock (n : Int) (w : World) : Calls Try.prog 79 #[.int .i64 n] w fun e w' => e = .returned (.bool (inB n 0 1)) ∧ w = w' := by
  cases h : inB n 0 1
  · rw [inB_false] at h
    by_cases h1 : 0 ≤ n
    · have h2 : decide (n < 2) = false := by simp; omega
      clear h
      go_enter Try.func79, Try.ntmps79
      go_wp2
      go_ret
      exact ⟨rfl, rfl⟩
    · clear h
      go_enter Try.func79, Try.ntmps79
      go_wp2
      go_ret
      exact ⟨rfl, rfl⟩
  · rw [inB_true] at h
    obtain ⟨h1, h3⟩ := h
    have h2 : decide (n < 2) = true := by simp; omega
    clear h3
    go_enter Try.func79, Try.ntmps79
    go_wp2
    go_ret
    exact ⟨by simp_all, rfl⟩


theorem meth_value (v : Value) (w : World) : (Go.method 221 102 v "loop.example/g00632/impl.right").run Try.prog w = .ok (78, v) w := by kernel_rfl

set_option maxHeartbeats 1000000 in
set_option maxRecDepth 100000 in
theorem right_value (n : Int) (w : World) : Calls Try.prog 78 #[.int .i64 n] w fun e w' => e = .returned (.bool (inB n 0 9)) ∧ w = w' := by
  cases h : inB n 0 9
  · rw [inB_false] at h
    by_cases h1 : 0 ≤ n
    · have h2 : decide (n ≤ 9) = false := by simp; omega
      clear h
      go_enter Try.func78, Try.ntmps78
      go_wp2
      go_ret
      exact ⟨rfl, rfl⟩
    · clear h
      go_enter Try.func78, Try.ntmps78
      go_wp2
      go_ret
      exact ⟨rfl, rfl⟩
  · rw [inB_true] at h
    obtain ⟨h1, h3⟩ := h
    have h2 : decide (n ≤ 9) = true := by simp; omega
    clear h3
    go_enter Try.func78, Try.ntmps78
    go_wp2
    go_ret
    exact ⟨by simp_all, rfl⟩


theorem meth_target (v : Value) (w : World) : (Go.method 221 98 v "loop.example/g00632/impl.right").run Try.prog w = .ok (75, v) w := by kernel_rfl

set_option maxHeartbeats 1000000 in
set_option maxRecDepth 100000 in
theorem right_target (n : Int) (w : World) : Calls Try.prog 75 #[.int .i64 n] w fun e w' => e = .returned (.bool (inB n 1 6)) ∧ w = w' := by
  cases h : inB n 1 6
  · rw [inB_false] at h
    by_cases h1 : 1 ≤ n
    · have h2 : decide (n ≤ 6) = false := by simp; omega
      clear h
      go_enter Try.func75, Try.ntmps75
      go_wp2
      go_ret
      exact ⟨rfl, rfl⟩
    · clear h
      go_enter Try.func75, Try.ntmps75
      go_wp2
      go_ret
      exact ⟨rfl, rfl⟩
  · rw [inB_true] at h
    obtain ⟨h1, h3⟩ := h
    have h2 : decide (n ≤ 6) = true := by simp; omega
    clear h3
    go_enter Try.func75, Try.ntmps75
    go_wp2
    go_ret
    exact ⟨by simp_all, rfl⟩


theorem meth_no (v : Value) (w : World) : (Go.method 221 104 v "loop.example/g00632/impl.right").run Try.prog w = .ok (80, v) w := by kernel_rfl

set_option maxHeartbeats 1000000 in
set_option maxRecDepth 100000 in
theorem right_no (n : Int) (w : World) : Calls Try.prog 80 #[.int .i64 n] w fun e w' => e = .returned (.bool (inB n 0 0)) ∧ w = w' := by
  go_enter Try.func80, Try.ntmps80
  go_wp2
  go_ret
  refine ⟨?_, rfl⟩
  cases h : inB n 0 0
  · rw [inB_false] at h
    have h2 : (n == 0) = false := by simp; omega
    simp [h2]
  · rw [inB_true] at h
    have h2 : (n == 0) = true := by simp; omega
    simp [h2]

end Go.Proofs.Ytleiogcohkfgkaa
