
/-
  leadsOn: a jump leads behind its own place, at most to the code's end.
-/
import Derived.Test.YtleiogcohkfgkaaInstrI
namespace Go.Proofs.Ytleiogcohkfgkaa
open Go.RowKit

def leads (x : I3) (k n : Int) : Bool := if x.1 = 7 then inB x.2.2 (k + 1) n else true


theorem to_shared (v : Value) (w : World) : (Instr.typeAssert (.iface 101 v) 94 98 true).run Try.prog w = .ok (.tuple #[.int .i64 0, .bool false]) w := by kernel_rfl
theorem to_register (v : Value) (w : World) : (Instr.typeAssert (.iface 100 v) 94 98 true).run Try.prog w = .ok (.tuple #[.int .i64 0, .bool false]) w := by kernel_rfl
theorem to_value (v : Value) (w : World) : (Instr.typeAssert (.iface 102 v) 94 98 true).run Try.prog w = .ok (.tuple #[.int .i64 0, .bool false]) w := by kernel_rfl
theorem to_no (v : Value) (w : World) : (Instr.typeAssert (.iface 104 v) 94 98 true).run Try.prog w = .ok (.tuple #[.int .i64 0, .bool false]) w := by kernel_rfl
theorem to_target (v : Value) (w : World) : (Instr.typeAssert (.iface 98 v) 94 98 true).run Try.prog w = .ok (.tuple #[v, .bool true]) w := by kernel_rfl
theorem to_nil (w : World) : (Instr.typeAssert .nilIface 94 98 true).run Try.prog w = .ok (.tuple #[.int .i64 0, .bool false]) w := by kernel_rfl


set_option maxHeartbeats 1000000 in
set_option maxRecDepth 100000 in
theorem leadsOn_1 (a b k n : Int) (w : World) : Calls Try.prog 56 #[.agg #[.int .i64 1, .int .i64 a, .int .i64 b], .int .i64 k, .int .i64 n] w fun e w' => e = .returned (.bool true) ∧ Below w.heap.size w w' := by
  have ta := to_shared (.int .i64 b)
  go_enter Try.func56, Try.ntmps56
  go_wp2_with fail
  refine (operandsOf_1 a b _).mono ?_
  rintro e w1 ⟨rfl, hb1⟩
  have hb : Below w.heap.size w w1 := bel_trans (by go_grown) hb1
  clear hb1
  go_wp2
  go_ret
  exact ⟨rfl, hb⟩


set_option maxHeartbeats 1000000 in
set_option maxRecDepth 100000 in
theorem leadsOn_2 (a b k n : Int) (w : World) : Calls Try.prog 56 #[.agg #[.int .i64 2, .int .i64 a, .int .i64 b], .int .i64 k, .int .i64 n] w fun e w' => e = .returned (.bool true) ∧ Below w.heap.size w w' := by
  have ta := to_register (.int .i64 b)
  go_enter Try.func56, Try.ntmps56
  go_wp2_with fail
  refine (operandsOf_2 a b _).mono ?_
  rintro e w1 ⟨rfl, hb1⟩
  have hb : Below w.heap.size w w1 := bel_trans (by go_grown) hb1
  clear hb1
  go_wp2
  go_ret
  exact ⟨rfl, hb⟩


set_option maxHeartbeats 1000000 in
set_option maxRecDepth 100000 in
theorem leadsOn_3 (a b k n : Int) (w : World) : Calls Try.prog 56 #[.agg #[.int .i64 3, .int .i64 a, .int .i64 b], .int .i64 k, .int .i64 n] w fun e w' => e = .returned (.bool true) ∧ Below w.heap.size w w' := by
  have ta := to_value (.int .i64 b)
  go_enter Try.func56, Try.ntmps56
  go_wp2_with fail
  refine (operandsOf_3 a b _).mono ?_
  rintro e w1 ⟨rfl, hb1⟩
  have hb : Below w.heap.size w w1 := bel_trans (by go_grown) hb1
  clear hb1
  go_wp2
  go_ret
  exact ⟨rfl, hb⟩


set_option maxHeartbeats 1000000 in
set_option maxRecDepth 100000 in
theorem leadsOn_4 (a b k n : Int) (w : World) : Calls Try.prog 56 #[.agg #[.int .i64 4, .int .i64 a, .int .i64 b], .int .i64 k, .int .i64 n] w fun e w' => e = .returned (.bool true) ∧ Below w.heap.size w w' := by
  have ta := to_value (.int .i64 b)
  go_enter Try.func56, Try.ntmps56
  go_wp2_with fail
  refine (operandsOf_4 a b _).mono ?_
  rintro e w1 ⟨rfl, hb1⟩
  have hb : Below w.heap.size w w1 := bel_trans (by go_grown) hb1
  clear hb1
  go_wp2
  go_ret
  exact ⟨rfl, hb⟩


set_option maxHeartbeats 1000000 in
set_option maxRecDepth 100000 in
theorem leadsOn_5 (a b k n : Int) (w : World) : Calls Try.prog 56 #[.agg #[.int .i64 5, .int .i64 a, .int .i64 b], .int .i64 k, .int .i64 n] w fun e w' => e = .returned (.bool true) ∧ Below w.heap.size w w' := by
  have ta := to_no (.int .i64 b)
  go_enter Try.func56, Try.ntmps56
  go_wp2_with fail
  refine (operandsOf_5 a b _).mono ?_
  rintro e w1 ⟨rfl, hb1⟩
  have hb : Below w.heap.size w w1 := bel_trans (by go_grown) hb1
  clear hb1
  go_wp2
  go_ret
  exact ⟨rfl, hb⟩


set_option maxHeartbeats 1000000 in
set_option maxRecDepth 100000 in
theorem leadsOn_6 (a b k n : Int) (w : World) : Calls Try.prog 56 #[.agg #[.int .i64 6, .int .i64 a, .int .i64 b], .int .i64 k, .int .i64 n] w fun e w' => e = .returned (.bool true) ∧ Below w.heap.size w w' := by
  have ta := to_no (.int .i64 b)
  go_enter Try.func56, Try.ntmps56
  go_wp2_with fail
  refine (operandsOf_6 a b _).mono ?_
  rintro e w1 ⟨rfl, hb1⟩
  have hb : Below w.heap.size w w1 := bel_trans (by go_grown) hb1
  clear hb1
  go_wp2
  go_ret
  exact ⟨rfl, hb⟩


set_option maxHeartbeats 1000000 in
set_option maxRecDepth 100000 in
theorem leadsOn_8 (a b k n : Int) (w : World) : Calls Try.prog 56 #[.agg #[.int .i64 8, .int .i64 a, .int .i64 b], .int .i64 k, .int .i64 n] w fun e w' => e = .returned (.bool true) ∧ Below w.heap.size w w' := by
  have ta := to_value (.int .i64 b)
  go_enter Try.func56, Try.ntmps56
  go_wp2_with fail
  refine (operandsOf_8 a b _).mono ?_
  rintro e w1 ⟨rfl, hb1⟩
  have hb : Below w.heap.size w w1 := bel_trans (by go_grown) hb1
  clear hb1
  go_wp2
  go_ret
  exact ⟨rfl, hb⟩


set_option maxHeartbeats 1000000 in
set_option maxRecDepth 100000 in
theorem leadsOn_0 (c a b k n : Int) (w : World) (h : c ≠ 1 ∧ c ≠ 2 ∧ c ≠ 3 ∧ c ≠ 4 ∧ c ≠ 5 ∧ c ≠ 6 ∧ c ≠ 7 ∧ c ≠ 8) : Calls Try.prog 56 #[.agg #[.int .i64 c, .int .i64 a, .int .i64 b], .int .i64 k, .int .i64 n] w fun e w' => e = .returned (.bool true) ∧ Below w.heap.size w w' := by
  have ta := to_nil
  go_enter Try.func56, Try.ntmps56
  go_wp2_with fail
  refine (operandsOf_0 c a b _ h).mono ?_
  rintro e w1 ⟨rfl, hb1⟩
  have hb : Below w.heap.size w w1 := bel_trans (by go_grown) hb1
  clear hb1 h
  go_wp2
  go_ret
  exact ⟨rfl, hb⟩

set_option maxHeartbeats 1000000 in
set_option maxRecDepth 100000 in
theorem leadsOn_7 (a b k n : Int) (w : World) : Calls Try.prog 56 #[.agg #[.int .i64 7, .int .i64 a, .int .i64 b], .int .i64 k, .int .i64 n] w fun e w' => e = .returned (.bool (inB b (k + 1) n)) ∧ Below w.heap.size w w' := by
  obtain ⟨p, hp⟩ : ∃ p, p = inB b (k + 1) n := ⟨_, rfl⟩
  rw [← hp]
  have ta := to_target (.int .i64 b)
  by_cases h1 : k < b
  · have hp' : p = decide (b ≤ n) := by
      subst hp
      by_cases h2 : b ≤ n
      · rw [decide_eq_true h2, inB_true]; omega
      · rw [decide_eq_false h2, inB_false]; omega
    clear hp
    subst hp'
    go_enter Try.func56, Try.ntmps56
    go_wp2_with fail
    refine (operandsOf_7 a b _).mono ?_
    rintro e w1 ⟨rfl, hb1⟩
    have hb : Below w.heap.size w w1 := bel_trans (by go_grown) hb1
    clear hb1
    go_wp2
    go_ret
    exact ⟨rfl, hb⟩
  · have hp' : p = false := by
      subst hp
      rw [inB_false]; omega
    clear hp
    subst hp'
    go_enter Try.func56, Try.ntmps56
    go_wp2_with fail
    refine (operandsOf_7 a b _).mono ?_
    rintro e w1 ⟨rfl, hb1⟩
    have hb : Below w.heap.size w w1 := bel_trans (by go_grown) hb1
    clear hb1
    go_wp2
    go_ret
    exact ⟨rfl, hb⟩

theorem leadsOn_is (x : I3) (k n : Int) (w : World) : Calls Try.prog 56 #[x.val, .int .i64 k, .int .i64 n] w fun e w' => e = .returned (.bool (leads x k n)) ∧ Below w.heap.size w w' := by
  obtain ⟨c, a, b⟩ := x
  unfold I3.val leads
  rcases op_cases (c, a, b) with h | h | h | h | h | h | h | h | h

  · obtain rfl : c = 1 := h
    simpa using leadsOn_1 a b k n w
  · obtain rfl : c = 2 := h
    simpa using leadsOn_2 a b k n w
  · obtain rfl : c = 3 := h
    simpa using leadsOn_3 a b k n w
  · obtain rfl : c = 4 := h
    simpa using leadsOn_4 a b k n w
  · obtain rfl : c = 5 := h
    simpa using leadsOn_5 a b k n w
  · obtain rfl : c = 6 := h
    simpa using leadsOn_6 a b k n w
  · obtain rfl : c = 7 := h
    simpa using leadsOn_7 a b k n w
  · obtain rfl : c = 8 := h
    simpa using leadsOn_8 a b k n w
  · have h' := h
    obtain ⟨h1, h2, h3, h4, h5, h6, h7, h8⟩ := h
    simp only [] at h7
    rw [if_neg h7]
    exact leadsOn_0 c a b k n w h'
end Go.Proofs.Ytleiogcohkfgkaa
