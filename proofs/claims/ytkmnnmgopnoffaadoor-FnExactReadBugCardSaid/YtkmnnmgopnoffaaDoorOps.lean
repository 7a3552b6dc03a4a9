
/-
  Operands: what each kind of an instruction's number may be (impl's methods right), and how an operand's method is found.
-/
import Derived.Test.YtkmnnmgopnoffaaDoorProg1
namespace Go.Proofs.YtkmnnmgopnoffaaDoor
open Go.RowKit

/-- A number from a to b. -/
def inB (n a b : Int) : Bool := decide (a ≤ n ∧ n ≤ b)

theorem inB_true {n a b : Int} : inB n a b = true ↔ a ≤ n ∧ n ≤ b := by simp [inB]
theorem inB_false {n a b : Int} : inB n a b = false ↔ ¬ (a ≤ n ∧ n ≤ b) := by simp only [inB, decide_eq_false_iff_not]


theorem meth_register (v : Value) (w : World) : (Go.method 356 212 v "loop.example/g00632/impl.right").run Tryd.prog w = .ok (218, v) w := by kernel_rfl

set_option maxHeartbeats 1000000 in
set_option maxRecDepth 100000 in
theorem right_register (n : Int) (w : World) : Calls Tryd.prog 218 #[.int .i64 n] w fun e w' => e = .returned (.bool (inB n 0 1)) ∧ w = w' := by
  cases h : inB n 0 1
  · rw [inB_false] at h
    by_cases h1 : 0 ≤ n
    · have h2 : decide (n < 2) = false := by simp; omega
      clear h
      go_enter Tryd.func218, Tryd.ntmps218
      go_wp2
      go_ret
      exact ⟨rfl, rfl⟩
    · clear h
      go_enter Tryd.func218, Tryd.ntmps218
      go_wp2
      go_ret
      exact ⟨rfl, rfl⟩
  · rw [inB_true] at h
    obtain ⟨h1, h3⟩ := h
    have h2 : decide (n < 2) = true := by simp; omega
    clear h3
    go_enter Tryd.func218, Tryd.ntmps218
    go_wp2
    go_ret
    exact ⟨by simp_all, rfl⟩


theorem meth_shared (v : Value) (w : World) : (Go.method 356 213 v "loop.example/g00632/impl.right").run Tryd.prog w = .ok (219, v) w := by kernel_rfl

set_option maxHeartbeats 1000000 in
set_option maxRecDepth 100000 in
theorem right_shared (n : Int) (w : World) : Calls Tryd.prog 219 #[.int .i64 n] w fun e w' => e = .returned (.bool (inB n 0 3)) ∧ w = w' := by
  cases h : inB n 0 3
  · rw [inB_false] at h
    by_cases h1 : 0 ≤ n
    · have h2 : decide (n < 4) = false := by simp; omega
      clear h
      go_enter Tryd.func219, Tryd.ntmps219
      go_wp2
      go_ret
      exact ⟨rfl, rfl⟩
    · clear h
      go_enter Tryd.func219, Tryd.ntmps219
      go_wp2
      go_ret
      exact ⟨rfl, rfl⟩
  · rw [inB_true] at h
    obtain ⟨h1, h3⟩ := h
    have h2 : decide (n < 4) = true := by simp; omega
    clear h3
    go_enter Tryd.func219, Tryd.ntmps219
    go_wp2
    go_ret
    exact ⟨by simp_all, rfl⟩


theorem meth_lock (v : Value) (w : World) : (Go.method 356 215 v "loop.example/g00632/impl.right").run Tryd.prog w = .ok (221, v) w := by kernel_rfl

set_option maxHeartbeats 1000000 in
set_option maxRecDepth 100000 in
theorem right_lock (n : Int) (w : World) : Calls Tryd.prog 221 #[.int .i64 n] w fun e w' => e = .returned (.bool (inB n 0 1)) ∧ w = w' := by
  cases h : inB n 0 1
  · rw [inB_false] at h
    by_cases h1 : 0 ≤ n
    · have h2 : decide (n < 2) = false := by simp; omega
      clear h
      go_enter Tryd.func221, Tryd.ntmps221
      go_wp2
      go_ret
      exact ⟨rfl, rfl⟩
    · clear h
      go_enter Tryd.func221, Tryd.ntmps221
      go_wp2
      go_ret
      exact ⟨rfl, rfl⟩
  · rw [inB_true] at h
    obtain ⟨h1, h3⟩ := h
    have h2 : decide (n < 2) = true := by simp; omega
    clear h3
    go_enter Tryd.func221, Tryd.ntmps221
    go_wp2
    go_ret
    exact ⟨by simp_all, rfl⟩


theorem meth_value (v : Value) (w : World) : (Go.method 356 214 v "loop.example/g00632/impl.right").run Tryd.prog w = .ok (220, v) w := by kernel_rfl

set_option maxHeartbeats 1000000 in
set_option maxRecDepth 100000 in
theorem right_value (n : Int) (w : World) : Calls Tryd.prog 220 #[.int .i64 n] w fun e w' => e = .returned (.bool (inB n 0 9)) ∧ w = w' := by
  cases h : inB n 0 9
  · rw [inB_false] at h
    by_cases h1 : 0 ≤ n
    · have h2 : decide (n ≤ 9) = false := by simp; omega
      clear h
      go_enter Tryd.func220, Tryd.ntmps220
      go_wp2
      go_ret
      exact ⟨rfl, rfl⟩
    · clear h
      go_enter Tryd.func220, Tryd.ntmps220
      go_wp2
      go_ret
      exact ⟨rfl, rfl⟩
  · rw [inB_true] at h
    obtain ⟨h1, h3⟩ := h
    have h2 : decide (n ≤ 9) = true := by simp; omega
    clear h3
    go_enter Tryd.func220, Tryd.ntmps220
    go_wp2
    go_ret
    exact ⟨by simp_all, rfl⟩


theorem meth_target (v : Value) (w : World) : (Go.method 356 194 v "loop.example/g00632/impl.right").run Tryd.prog w = .ok (217, v) w := by kernel_rfl

set_option maxHeartbeats 1000000 in
set_option maxRecDepth 100000 in
theorem right_target (n : Int) (w : World) : Calls Tryd.prog 217 #[.int .i64 n] w fun e w' => e = .returned (.bool (inB n 1 6)) ∧ w = w' := by
  cases h : inB n 1 6
  · rw [inB_false] at h
    by_cases h1 : 1 ≤ n
    · have h2 : decide (n ≤ 6) = false := by simp; omega
      clear h
      go_enter Tryd.func217, Tryd.ntmps217
      go_wp2
      go_ret
      exact ⟨rfl, rfl⟩
    · clear h
      go_enter Tryd.func217, Tryd.ntmps217
      go_wp2
      go_ret
      exact ⟨rfl, rfl⟩
  · rw [inB_true] at h
    obtain ⟨h1, h3⟩ := h
    have h2 : decide (n ≤ 6) = true := by simp; omega
    clear h3
    go_enter Tryd.func217, Tryd.ntmps217
    go_wp2
    go_ret
    exact ⟨by simp_all, rfl⟩


theorem meth_no (v : Value) (w : World) : (Go.method 356 216 v "loop.example/g00632/impl.right").run Tryd.prog w = .ok (222, v) w := by kernel_rfl

set_option maxHeartbeats 1000000 in
set_option maxRecDepth 100000 in
theorem right_no (n : Int) (w : World) : Calls Tryd.prog 222 #[.int .i64 n] w fun e w' => e = .returned (.bool (inB n 0 0)) ∧ w = w' := by
  go_enter Tryd.func222, Tryd.ntmps222
  go_wp2
  go_ret
  refine ⟨?_, rfl⟩
  cases h : inB n 0 0
  · rw [inB_false] at h
    have h2 : (n == 0) = false := by simp; omega
    simp [h2]
  · rw [inB_true] at h
    have h2 : (n == 0) = true := by simp; omega
    simp [h2]

end Go.Proofs.YtkmnnmgopnoffaaDoor
