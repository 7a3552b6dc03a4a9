/-
  tellsB: which instructions tell a second number.
-/
import Derived.Test.YtiokkoaalakakaaDoorInstrI
namespace Go.Proofs.YtiokkoaalakakaaDoor
open Go.RowKit


theorem tb_shared (v : Value) (w : World) : (Instr.typeAssert (.iface 106 v) 80 109 true).run Tryd.prog w = .ok (.tuple #[.int .i64 0, .bool false]) w := by kernel_rfl
theorem tb_register (v : Value) (w : World) : (Instr.typeAssert (.iface 105 v) 80 109 true).run Tryd.prog w = .ok (.tuple #[.int .i64 0, .bool false]) w := by kernel_rfl
theorem tb_value (v : Value) (w : World) : (Instr.typeAssert (.iface 107 v) 80 109 true).run Tryd.prog w = .ok (.tuple #[.int .i64 0, .bool false]) w := by kernel_rfl
theorem tb_target (v : Value) (w : World) : (Instr.typeAssert (.iface 110 v) 80 109 true).run Tryd.prog w = .ok (.tuple #[.int .i64 0, .bool false]) w := by kernel_rfl
theorem tb_no (v : Value) (w : World) : (Instr.typeAssert (.iface 109 v) 80 109 true).run Tryd.prog w = .ok (.tuple #[v, .bool true]) w := by kernel_rfl
theorem tb_nil (w : World) : (Instr.typeAssert .nilIface 80 109 true).run Tryd.prog w = .ok (.tuple #[.int .i64 0, .bool false]) w := by kernel_rfl


set_option maxHeartbeats 1000000 in
set_option maxRecDepth 100000 in
theorem tellsB_1 (a b : Int) (w : World) : Calls Tryd.prog 59 #[.agg #[.int .i64 1, .int .i64 a, .int .i64 b]] w fun e w' => e = .returned (.bool true) ∧ Below w.heap.size w w' := by
  have ta := tb_shared (.int .i64 b)
  go_enter Tryd.func59, Tryd.ntmps59
  go_wp2_with fail
  refine (operandsOf_1 a b _).mono ?_
  rintro e w1 ⟨rfl, hb1⟩
  have hb : Below w.heap.size w w1 := bel_trans (by go_grown) hb1
  clear hb1
  go_wp2
  go_ret
  exact ⟨rfl, hb⟩


set_option maxHeartbeats 1000000 in
set_option maxRecDepth 100000 in
theorem tellsB_2 (a b : Int) (w : World) : Calls Tryd.prog 59 #[.agg #[.int .i64 2, .int .i64 a, .int .i64 b]] w fun e w' => e = .returned (.bool true) ∧ Below w.heap.size w w' := by
  have ta := tb_register (.int .i64 b)
  go_enter Tryd.func59, Tryd.ntmps59
  go_wp2_with fail
  refine (operandsOf_2 a b _).mono ?_
  rintro e w1 ⟨rfl, hb1⟩
  have hb : Below w.heap.size w w1 := bel_trans (by go_grown) hb1
  clear hb1
  go_wp2
  go_ret
  exact ⟨rfl, hb⟩


set_option maxHeartbeats 1000000 in
set_option maxRecDepth 100000 in
theorem tellsB_3 (a b : Int) (w : World) : Calls Tryd.prog 59 #[.agg #[.int .i64 3, .int .i64 a, .int .i64 b]] w fun e w' => e = .returned (.bool true) ∧ Below w.heap.size w w' := by
  have ta := tb_value (.int .i64 b)
  go_enter Tryd.func59, Tryd.ntmps59
  go_wp2_with fail
  refine (operandsOf_3 a b _).mono ?_
  rintro e w1 ⟨rfl, hb1⟩
  have hb : Below w.heap.size w w1 := bel_trans (by go_grown) hb1
  clear hb1
  go_wp2
  go_ret
  exact ⟨rfl, hb⟩


set_option maxHeartbeats 1000000 in
set_option maxRecDepth 100000 in
theorem tellsB_4 (a b : Int) (w : World) : Calls Tryd.prog 59 #[.agg #[.int .i64 4, .int .i64 a, .int .i64 b]] w fun e w' => e = .returned (.bool true) ∧ Below w.heap.size w w' := by
  have ta := tb_value (.int .i64 b)
  go_enter Tryd.func59, Tryd.ntmps59
  go_wp2_with fail
  refine (operandsOf_4 a b _).mono ?_
  rintro e w1 ⟨rfl, hb1⟩
  have hb : Below w.heap.size w w1 := bel_trans (by go_grown) hb1
  clear hb1
  go_wp2
  go_ret
  exact ⟨rfl, hb⟩


set_option maxHeartbeats 1000000 in
set_option maxRecDepth 100000 in
theorem tellsB_5 (a b : Int) (w : World) : Calls Tryd.prog 59 #[.agg #[.int .i64 5, .int .i64 a, .int .i64 b]] w fun e w' => e = .returned (.bool false) ∧ Below w.heap.size w w' := by
  have ta := tb_no (.int .i64 b)
  go_enter Tryd.func59, Tryd.ntmps59
  go_wp2_with fail
  refine (operandsOf_5 a b _).mono ?_
  rintro e w1 ⟨rfl, hb1⟩
  have hb : Below w.heap.size w w1 := bel_trans (by go_grown) hb1
  clear hb1
  go_wp2
  go_ret
  exact ⟨rfl, hb⟩


set_option maxHeartbeats 1000000 in
set_option maxRecDepth 100000 in
theorem tellsB_6 (a b : Int) (w : World) : Calls Tryd.prog 59 #[.agg #[.int .i64 6, .int .i64 a, .int .i64 b]] w fun e w' => e = .returned (.bool false) ∧ Below w.heap.size w w' := by
  have ta := tb_no (.int .i64 b)
  go_enter Tryd.func59, Tryd.ntmps59
  go_wp2_with fail
  refine (operandsOf_6 a b _).mono ?_
  rintro e w1 ⟨rfl, hb1⟩
  have hb : Below w.heap.size w w1 := bel_trans (by go_grown) hb1
  clear hb1
  go_wp2
  go_ret
  exact ⟨rfl, hb⟩


set_option maxHeartbeats 1000000 in
set_option maxRecDepth 100000 in
theorem tellsB_7 (a b : Int) (w : World) : Calls Tryd.prog 59 #[.agg #[.int .i64 7, .int .i64 a, .int .i64 b]] w fun e w' => e = .returned (.bool true) ∧ Below w.heap.size w w' := by
  have ta := tb_target (.int .i64 b)
  go_enter Tryd.func59, Tryd.ntmps59
  go_wp2_with fail
  refine (operandsOf_7 a b _).mono ?_
  rintro e w1 ⟨rfl, hb1⟩
  have hb : Below w.heap.size w w1 := bel_trans (by go_grown) hb1
  clear hb1
  go_wp2
  go_ret
  exact ⟨rfl, hb⟩


set_option maxHeartbeats 1000000 in
set_option maxRecDepth 100000 in
theorem tellsB_8 (a b : Int) (w : World) : Calls Tryd.prog 59 #[.agg #[.int .i64 8, .int .i64 a, .int .i64 b]] w fun e w' => e = .returned (.bool true) ∧ Below w.heap.size w w' := by
  have ta := tb_value (.int .i64 b)
  go_enter Tryd.func59, Tryd.ntmps59
  go_wp2_with fail
  refine (operandsOf_8 a b _).mono ?_
  rintro e w1 ⟨rfl, hb1⟩
  have hb : Below w.heap.size w w1 := bel_trans (by go_grown) hb1
  clear hb1
  go_wp2
  go_ret
  exact ⟨rfl, hb⟩


set_option maxHeartbeats 1000000 in
set_option maxRecDepth 100000 in
theorem tellsB_0 (c a b : Int) (w : World) (h : c ≠ 1 ∧ c ≠ 2 ∧ c ≠ 3 ∧ c ≠ 4 ∧ c ≠ 5 ∧ c ≠ 6 ∧ c ≠ 7 ∧ c ≠ 8) : Calls Tryd.prog 59 #[.agg #[.int .i64 c, .int .i64 a, .int .i64 b]] w fun e w' => e = .returned (.bool true) ∧ Below w.heap.size w w' := by
  have ta := tb_nil
  go_enter Tryd.func59, Tryd.ntmps59
  go_wp2_with fail
  refine (operandsOf_0 c a b _ h).mono ?_
  rintro e w1 ⟨rfl, hb1⟩
  have hb : Below w.heap.size w w1 := bel_trans (by go_grown) hb1
  clear hb1 h
  go_wp2
  go_ret
  exact ⟨rfl, hb⟩
end Go.Proofs.YtiokkoaalakakaaDoor
